/-
  Texts that the walk of a statement over brains leans on, joined (CtIn). Conditions: those that each theorem names.
-/
import Derived.Test.YtplejbgecihnpaaDoorK2
import Derived.Test.YtplejbgecihnpaaDoorK6

namespace Go.Proofs.YtplejbgecihnpaaDoor
open Go.RowKit Go.Shelf
attribute [local go_sem] Oper.semAt_some

/-- What lies below stands, and some blocks do. -/
def KpD (n₀ : Nat) (L : List Nat) (W W' : World) : Prop := Below n₀ W W' ∧ ∀ b ∈ L, W'.heap[b]? = W.heap[b]?
theorem KpD.refl (n₀ : Nat) (L : List Nat) (W : World) : KpD n₀ L W W := ⟨Below.refl _ _, fun _ _ => rfl⟩
theorem KpD.trans {n₀ : Nat} {L : List Nat} {A B C : World} (h : KpD n₀ L A B) (k : KpD n₀ L B C) : KpD n₀ L A C := ⟨h.1.trans k.1, fun b hb => (k.2 b hb).trans (h.2 b hb)⟩
theorem KpD.of_below {n₀ : Nat} {L : List Nat} {W W' : World} (h : Below W.heap.size W W') (h0 : n₀ ≤ W.heap.size) (hL : ∀ b ∈ L, b < W.heap.size) : KpD n₀ L W W' := ⟨h.mono h0, fun b hb => h.block b (hL b hb)⟩
theorem KpD.put {n₀ : Nat} {L : List Nat} {W : World} {l : Nat} {o' : Obj} (h0 : n₀ ≤ l) (hL : ∀ b ∈ L, b < l) : KpD n₀ L W (W.putObj l o') :=
  ⟨⟨rfl, rfl, rfl, Nat.le_of_eq World.putObj_size.symm, fun b hb => World.putObj_heap_other (by omega)⟩, fun b hb => World.putObj_heap_other (by have := hL b hb; omega)⟩
theorem Whole.kpd {n₀ : Nat} {L : List Nat} {W W' : World} {b : Nat} {t : TypeId} {cs : Array Value} (h : Whole W b t cs) (k : KpD n₀ L W W') (hb : b ∈ L) : Whole W' b t cs := (k.2 b hb).trans h
/-- An element that the iterator tells next. -/
def OkIn {α : Type} (xs : List α) (pre : List α) (x : α) (_ : World) : Prop := pre ++ [x] <+: xs
theorem filter_snoc {α : Type} {q : α → Bool} {pre : List α} {x : α} : (pre ++ [x]).filter q = pre.filter q ++ (if q x then [x] else []) := by
  rw [List.filter_append]
  cases h : q x <;> simp [h]
theorem filter_next_pre {α : Type} {q : α → Bool} {xs pre rest : List α} {x : α} (h : xs = pre ++ x :: rest) (hq : q x = true) : pre.filter q ++ [x] <+: xs.filter q := by
  rw [h, List.filter_append, List.filter_cons, hq]
  exact ⟨rest.filter q, by simp⟩
def encIt (x : It) : Array Value := #[.agg #[.int .i64 x.tok, .int .i64 x.ver, .int .i64 x.zone, .bool x.warm]]
def encKp (x : Kp) : Array Value := #[x.v]

/-- The iterator that is handed back, and its two boxes. -/
def itInPost (A : Option Addr) (n c : Nat) (fv : Value) (w : World) (e : Ending) (w' : World) : Prop :=
  ∃ b1 b2, e = .returned (.func (.func 59) #[] #[.pointer (some ⟨b1, 0, none⟩), .pointer (some ⟨b2, 0, none⟩)]) ∧ w.heap.size ≤ b1 ∧ w.heap.size ≤ b2 ∧ Whole w' b1 25 #[.slice A n c] ∧ Whole w' b2 55 #[fv] ∧ Below w.heap.size w w'
set_option maxHeartbeats 400000 in
theorem itIn_any (A : Option Addr) (n c : Nat) (F : FuncId) (lb : Array Value) (w : World) :
    Calls Tryd.prog 36 #[.slice A n c, .func (.func F) #[] lb] w (itInPost A n c (.func (.func F) #[] lb) w) := by
  obtain ⟨hb, w0, w1⟩ := two_new w 25 55 #[.slice A n c] #[.func (.func F) #[] lb]
  have h0 := hb
  go_enter Tryd.func36, Tryd.ntmps36
  go_wp2_with fail
  go_ret
  exact ⟨w.heap.size, w.heap.size + 1, rfl, by omega, by omega, w0, w1, h0⟩

/-- Where the iterator stands. -/
def itInAt (l b1 b2 n₀ : Nat) (L : List Nat) (F : FuncId) (lb : Array Value) (q : It → Bool) (A : Option Addr) (n c : Nat) (xs : List It) (J : List It → World → Prop) (W0 : World) (a' : Act) (w' : World) : Prop :=
  ∃ (pre : List It) (rest : List It) (u5 u6 u7 u8 u9 u10 u11 u12 u13 u14 u15 u16 u17 u18 u19 u20 u21 u22 u23 u24 u25 u26 u27 : Value), a' = { tmps := #[.func (.yield l) #[] #[], .pointer (some ⟨b1, 0, none⟩), .pointer (some ⟨b2, 0, none⟩), undef, .int .i64 (pre.length : Int), u5, u6, u7, u8, u9, u10, u11, u12, u13, u14, u15, u16, u17, u18, u19, u20, u21, u22, u23, u24, u25, u26, u27], defers := [] } ∧ xs = pre ++ rest ∧ Whole w' b1 25 #[.slice A n c] ∧ Whole w' b2 55 #[.func (.func F) #[] lb] ∧ RdI w' n₀ A n xs ∧ KpD n₀ L W0 w' ∧ J (pre.filter q) w'

set_option maxRecDepth 100000 in
set_option maxHeartbeats 4000000 in
theorem itIn1_in (m l b1 b2 n₀ : Nat) (L : List Nat) (F : FuncId) (lb : Array Value) (q : It → Bool) (A : Option Addr) (n c : Nat) (xs : List It) (hn : n ≤ 1000000) (hm : 1 ≤ m) (h1 : b1 ∈ L) (h2 : b2 ∈ L)
    (eg : ∀ args w, (callFunc F args).run Tryd.prog w = .ok (.enter F args) w)
    (J : List It → World → Prop) (Jx : World → Prop) (W0 : World)
    (hq : ∀ (x : It) (W : World), KpD n₀ L W0 W → Calls Tryd.prog F (#[.agg #[.int .i64 x.tok, .int .i64 x.ver, .int .i64 x.zone, .bool x.warm]] ++ lb) W (BoolPost (q x) W))
    (hY : ∀ pre x W, J pre W → pre ++ [x] <+: xs.filter q → YieldAt Fence.wide (m - 1) Tryd.prog l #[.agg #[.int .i64 x.tok, .int .i64 x.ver, .int .i64 x.zone, .bool x.warm]] W fun e W' =>
      (e = .returned (.bool true) ∧ J (pre ++ [x]) W' ∧ KpD n₀ L W W') ∨ (e = .returned (.bool false) ∧ Jx W'))
    (hJ : AbidesFrom W0.heap.size J) (hB1 : Whole W0 b1 25 #[.slice A n c]) (hB2 : Whole W0 b2 55 #[.func (.func F) #[] lb]) (hr : RdI W0 n₀ A n xs) (hN : n₀ ≤ W0.heap.size) (hL : ∀ b ∈ L, b < W0.heap.size) (h0 : J [] W0) :
    CallsIn Fence.wide m Tryd.prog 59 #[.func (.yield l) #[] #[], .pointer (some ⟨b1, 0, none⟩), .pointer (some ⟨b2, 0, none⟩)] W0 fun e W' => (∃ v, e = .returned v) ∧
      ((∃ ys, ys = xs.filter q ∧ J ys W') ∨ Jx W') := by
  have HY := Lib.hid hY
  have HQ := Lib.hid hq
  have Hr := Lib.hid hr
  have H1 := Lib.hid h1
  have H2 := Lib.hid h2
  have HJ := Lib.hid hJ
  have HN := Lib.hid hN
  have HLl := Lib.hid hL
  have HM := Lib.hid hm
  have H0 := Lib.hid h0
  have HB1 := Lib.hid hB1
  have HB2 := Lib.hid hB2
  clear hY hr h1 h2 hJ hN hm h0 hq hL hB1 hB2
  refine callsIn_of_wp Tryd.func59 rfl trivial ?_ rfl
  simp only [Tryd.ntmps59, List.size_toArray, List.length_cons, List.length_nil, Nat.reduceAdd, Nat.reduceSub, Array.replicate_succ, Array.replicate_zero, List.push_toArray, List.append_toArray, List.nil_append, List.cons_append]
  gi_wp2_with fail
  refine wpIn_wide.2 (wp_scope_back_behind 0 (itInAt l b1 b2 n₀ L F lb q A n c xs J W0)
    (fun a' _ => n - (intOf (a'.tmps.getD 4 undef)).toNat) rfl (wpIn_wide (n := m).1 ?ahead) (fun a' w' hJ' => wpIn_wide (n := m).1 ?pass))
  case ahead =>
    gi_wp2_with fail
    exact ⟨[], xs, _, _, _, _, _, _, _, _, _, _, _, _, _, _, _, _, _, _, _, _, _, _, _, rfl, rfl, HB1.out, HB2.out, Hr.out, KpD.refl _ _ _, H0.out⟩
  case pass =>
    obtain ⟨pre, rest, u5, u6, u7, u8, u9, u10, u11, u12, u13, u14, u15, u16, u17, u18, u19, u20, u21, u22, u23, u24, u25, u26, u27, rfl, hx, hB1', hB2', hr', hk', hJp⟩ := hJ'
    clear HB1 HB2
    have HB1 := Lib.hid hB1'
    have HB2 := Lib.hid hB2'
    have Hr' := Lib.hid hr'
    have HK' := Lib.hid hk'
    have HN' := Lib.hid (show n₀ ≤ w'.heap.size from Nat.le_trans HN.out hk'.1.size)
    have HLl' := Lib.hid (show ∀ b ∈ L, b < w'.heap.size from fun b hb => Nat.lt_of_lt_of_le (HLl.out b hb) hk'.1.size)
    have Hx := Lib.hid hx
    have HJp := Lib.hid hJp
    have hl : pre.length + rest.length = n := by have := hr'.1; rw [hx, List.length_append] at this; exact this
    clear hr' hx hJp hk' hB1' hB2'
    have hszd : ∀ V' : World, Below w'.heap.size w' V' → Below w'.heap.size w' V' := fun _ h => h
    have HT : Hid ((fun V' : World => Below w'.heap.size w' V') w'.drew) := Lib.hid (below_dr (Below.refl _ w') 1)
    cases rest with
    | nil =>
      have hge : decide (pre.length < n) = false := by simp at hl ⊢; omega
      have hgn : (pre.length : Int) = (n : Int) := by simp at hl; omega
      have HE := Lib.hid (show xs.filter q = pre.filter q by rw [Hx.out, List.append_nil])
      clear hl
      have HL : Hid (∀ V' : World, Below w'.heap.size w' V' → V'.cell? ⟨b1, 0, none⟩ = some (.slice A n c) ∧ V'.cell? ⟨b2, 0, none⟩ = some (.func (.func F) #[] lb) ∧ True) := Lib.hid (fun V' h => ⟨(HB1.out.under h).cell 0, (HB2.out.under h).cell 0, trivial⟩)
      gi_wp2_with fail
      refine wpIn_region_F (ls := []) (T := (fun V' : World => Below w'.heap.size w' V')) (by kernel_rfl) ?_
      refine takeQ (i := 0) (v := ?_) rfl (fun _ => rfl) rfl (by kernel_rfl) (by kernel_rfl) (by kernel_rfl) (by kernel_rfl) (fun _ _ _ h => h) (by rfl) ?_ (fun _ => HT.out) ?_
      rotate_left
      · intro V'; go_simp <;> with_reducible rfl
      simp only [Act.put, List.setIfInBounds_toArray, List.set_cons_zero, List.set_cons_succ]
      refine takeF (i := 1) (v := ?_) rfl (fun _ => rfl) rfl (by kernel_rfl) (by kernel_rfl) (by kernel_rfl) (by kernel_rfl) (fun _ _ _ h => h) (by rfl) ?_ HT.out ?_
      rotate_left
      · intro V' hV; obtain ⟨d1, d2, dx⟩ := HL.out V' hV; go_simp <;> with_reducible rfl
      simp only [Act.put, List.setIfInBounds_toArray, List.set_cons_zero, List.set_cons_succ]
      refine takeF (i := 2) (v := ?_) rfl (fun _ => rfl) rfl (by kernel_rfl) (by kernel_rfl) (by kernel_rfl) (by kernel_rfl) (fun _ _ _ h => h) (by rfl) ?_ HT.out ?_
      rotate_left
      · intro V' hV; obtain ⟨d1, d2, dx⟩ := HL.out V' hV; go_simp <;> with_reducible rfl
      simp only [Act.put, List.setIfInBounds_toArray, List.set_cons_zero, List.set_cons_succ]
      refine takeQ (i := 3) (v := .bool true) rfl (fun _ => rfl) rfl (by kernel_rfl) (by kernel_rfl) (by kernel_rfl) (by kernel_rfl) (fun _ _ _ h => h) (by rfl) ?_ (fun _ => HT.out) ?_
      · intro V'; go_simp <;> (try (first | exact hgn | rfl))
      simp only [Act.put, List.setIfInBounds_toArray, List.set_cons_zero, List.set_cons_succ]
      refine takeQ (i := 4) (v := ?_) rfl (fun _ => rfl) rfl (by kernel_rfl) (by kernel_rfl) (by kernel_rfl) (by kernel_rfl) (fun _ _ _ h => h) (by rfl) ?_ (fun _ => HT.out) ?_
      rotate_left
      · intro V'; go_simp <;> with_reducible rfl
      simp only [Act.put, List.setIfInBounds_toArray, List.set_cons_zero, List.set_cons_succ]
      refine skipF (i := 5) rfl (fun _ => rfl) rfl (by kernel_rfl) (by kernel_rfl) (by kernel_rfl) (by kernel_rfl) (fun _ _ _ h => h) (by rfl) (fun _ => HT.out) ?_
      simp only [Act.put, List.setIfInBounds_toArray, List.set_cons_zero, List.set_cons_succ]
      refine skipF (i := 6) rfl (fun _ => rfl) rfl (by kernel_rfl) (by kernel_rfl) (by kernel_rfl) (by kernel_rfl) (fun _ _ _ h => h) (by rfl) (fun _ => HT.out) ?_
      simp only [Act.put, List.setIfInBounds_toArray, List.set_cons_zero, List.set_cons_succ]
      refine skipF (i := 7) rfl (fun _ => rfl) rfl (by kernel_rfl) (by kernel_rfl) (by kernel_rfl) (by kernel_rfl) (fun _ _ _ h => h) (by rfl) (fun _ => HT.out) ?_
      simp only [Act.put, List.setIfInBounds_toArray, List.set_cons_zero, List.set_cons_succ]
      refine skipF (i := 8) rfl (fun _ => rfl) rfl (by kernel_rfl) (by kernel_rfl) (by kernel_rfl) (by kernel_rfl) (fun _ _ _ h => h) (by rfl) (fun _ => HT.out) ?_
      simp only [Act.put, List.setIfInBounds_toArray, List.set_cons_zero, List.set_cons_succ]
      refine skipF (i := 9) rfl (fun _ => rfl) rfl (by kernel_rfl) (by kernel_rfl) (by kernel_rfl) (by kernel_rfl) (fun _ _ _ h => h) (by rfl) (fun _ => HT.out) ?_
      simp only [Act.put, List.setIfInBounds_toArray, List.set_cons_zero, List.set_cons_succ]
      refine skipF (i := 10) rfl (fun _ => rfl) rfl (by kernel_rfl) (by kernel_rfl) (by kernel_rfl) (by kernel_rfl) (fun _ _ _ h => h) (by rfl) (fun _ => HT.out) ?_
      simp only [Act.put, List.setIfInBounds_toArray, List.set_cons_zero, List.set_cons_succ]
      refine skipF (i := 11) rfl (fun _ => rfl) rfl (by kernel_rfl) (by kernel_rfl) (by kernel_rfl) (by kernel_rfl) (fun _ _ _ h => h) (by rfl) (fun _ => HT.out) ?_
      simp only [Act.put, List.setIfInBounds_toArray, List.set_cons_zero, List.set_cons_succ]
      refine skipF (i := 12) rfl (fun _ => rfl) rfl (by kernel_rfl) (by kernel_rfl) (by kernel_rfl) (by kernel_rfl) (fun _ _ _ h => h) (by rfl) (fun _ => HT.out) ?_
      simp only [Act.put, List.setIfInBounds_toArray, List.set_cons_zero, List.set_cons_succ]
      refine skipF (i := 13) rfl (fun _ => rfl) rfl (by kernel_rfl) (by kernel_rfl) (by kernel_rfl) (by kernel_rfl) (fun _ _ _ h => h) (by rfl) (fun _ => HT.out) ?_
      simp only [Act.put, List.setIfInBounds_toArray, List.set_cons_zero, List.set_cons_succ]
      refine skipF (i := 14) rfl (fun _ => rfl) rfl (by kernel_rfl) (by kernel_rfl) (by kernel_rfl) (by kernel_rfl) (fun _ _ _ h => h) (by rfl) (fun _ => HT.out) ?_
      simp only [Act.put, List.setIfInBounds_toArray, List.set_cons_zero, List.set_cons_succ]
      refine skipF (i := 15) rfl (fun _ => rfl) rfl (by kernel_rfl) (by kernel_rfl) (by kernel_rfl) (by kernel_rfl) (fun _ _ _ h => h) (by rfl) (fun _ => HT.out) ?_
      simp only [Act.put, List.setIfInBounds_toArray, List.set_cons_zero, List.set_cons_succ]
      refine skipF (i := 16) rfl (fun _ => rfl) rfl (by kernel_rfl) (by kernel_rfl) (by kernel_rfl) (by kernel_rfl) (fun _ _ _ h => h) (by rfl) (fun _ => HT.out) ?_
      simp only [Act.put, List.setIfInBounds_toArray, List.set_cons_zero, List.set_cons_succ]
      refine skipF (i := 17) rfl (fun _ => rfl) rfl (by kernel_rfl) (by kernel_rfl) (by kernel_rfl) (by kernel_rfl) (fun _ _ _ h => h) (by rfl) (fun _ => HT.out) ?_
      simp only [Act.put, List.setIfInBounds_toArray, List.set_cons_zero, List.set_cons_succ]
      refine skipF (i := 18) rfl (fun _ => rfl) rfl (by kernel_rfl) (by kernel_rfl) (by kernel_rfl) (by kernel_rfl) (fun _ _ _ h => h) (by rfl) (fun _ => HT.out) ?_
      simp only [Act.put, List.setIfInBounds_toArray, List.set_cons_zero, List.set_cons_succ]
      refine skipF (i := 19) rfl (fun _ => rfl) rfl (by kernel_rfl) (by kernel_rfl) (by kernel_rfl) (by kernel_rfl) (fun _ _ _ h => h) (by rfl) (fun _ => HT.out) ?_
      simp only [Act.put, List.setIfInBounds_toArray, List.set_cons_zero, List.set_cons_succ]
      refine takeQ (i := 20) (v := ?_) rfl (fun _ => rfl) rfl (by kernel_rfl) (by kernel_rfl) (by kernel_rfl) (by kernel_rfl) (fun _ _ _ h => h) (by rfl) ?_ (fun _ => HT.out) ?_
      rotate_left
      · intro V'; go_simp <;> with_reducible rfl
      simp only [Act.put, List.setIfInBounds_toArray, List.set_cons_zero, List.set_cons_succ]
      refine doneF (by kernel_rfl) ?_ _
      gi_wp2_with fail
      simp only [Exit.jump]
      refine bodyPost_ret (results_none rfl _ _ _) rfl ?_
      exact ⟨⟨_, rfl⟩, .inl ⟨_, HE.out.symm, HJ.out _ _ _ none HJp.out ⟨rfl, rfl, rfl, Nat.le_refl _, fun _ _ _ => rfl⟩ (fun r e => by cases e)⟩⟩
    | cons x rest =>
      have hltn : pre.length < n := by simp at hl; omega
      have hne : ¬ (pre.length : Int) = (n : Int) := by omega
      have hlt : (pre.length : Int) < (n : Int) := by omega
      have hx : xs[pre.length]? = some x := by rw [Hx.out]; simp
      obtain ⟨b, off, rfl, hb, hc⟩ := RdI.at_ Hr'.out (by omega)
      have HC := Lib.hid (hc _ _ hx)
      have hbs : b < n₀ := hb
      have Hb := Lib.hid hbs
      have Hl := Lib.hid hl
      clear hc hx hl hb hbs
      have HL : Hid (∀ V' : World, Below w'.heap.size w' V' → V'.cell? ⟨b1, 0, none⟩ = some (.slice (some ⟨b, off, none⟩) n c) ∧ V'.cell? ⟨b2, 0, none⟩ = some (.func (.func F) #[] lb) ∧ ItAt V' b (off + pre.length * 4) x) :=
        Lib.hid (fun V' h => ⟨(HB1.out.under h).cell 0, (HB2.out.under h).cell 0, ItAt_below HC.out (h.mono HN'.out) Hb.out⟩)
      cases hqx : q x with
      | false =>
        have HQx := Lib.hid hqx
        clear hqx
        gi_wp2_with fail
        refine wpIn_region_F (ls := []) (T := (fun V' : World => Below w'.heap.size w' V')) (by kernel_rfl) ?_
        refine takeQ (i := 0) (v := ?_) rfl (fun _ => rfl) rfl (by kernel_rfl) (by kernel_rfl) (by kernel_rfl) (by kernel_rfl) (fun _ _ _ h => h) (by rfl) ?_ (fun _ => HT.out) ?_
        rotate_left
        · intro V'; go_simp <;> with_reducible rfl
        simp only [Act.put, List.setIfInBounds_toArray, List.set_cons_zero, List.set_cons_succ]
        refine takeF (i := 1) (v := ?_) rfl (fun _ => rfl) rfl (by kernel_rfl) (by kernel_rfl) (by kernel_rfl) (by kernel_rfl) (fun _ _ _ h => h) (by rfl) ?_ HT.out ?_
        rotate_left
        · intro V' hV; obtain ⟨d1, d2, dx⟩ := HL.out V' hV; go_simp <;> with_reducible rfl
        simp only [Act.put, List.setIfInBounds_toArray, List.set_cons_zero, List.set_cons_succ]
        refine takeF (i := 2) (v := ?_) rfl (fun _ => rfl) rfl (by kernel_rfl) (by kernel_rfl) (by kernel_rfl) (by kernel_rfl) (fun _ _ _ h => h) (by rfl) ?_ HT.out ?_
        rotate_left
        · intro V' hV; obtain ⟨d1, d2, dx⟩ := HL.out V' hV; go_simp <;> with_reducible rfl
        simp only [Act.put, List.setIfInBounds_toArray, List.set_cons_zero, List.set_cons_succ]
        refine takeQ (i := 3) (v := .bool false) rfl (fun _ => rfl) rfl (by kernel_rfl) (by kernel_rfl) (by kernel_rfl) (by kernel_rfl) (fun _ _ _ h => h) (by rfl) ?_ (fun _ => HT.out) ?_
        · intro V'; go_simp <;> (try (first | exact hne | rfl))
        simp only [Act.put, List.setIfInBounds_toArray, List.set_cons_zero, List.set_cons_succ]
        refine takeQ (i := 4) (v := ?_) rfl (fun _ => rfl) rfl (by kernel_rfl) (by kernel_rfl) (by kernel_rfl) (by kernel_rfl) (fun _ _ _ h => h) (by rfl) ?_ (fun _ => HT.out) ?_
        rotate_left
        · intro V'; go_simp <;> with_reducible rfl
        simp only [Act.put, List.setIfInBounds_toArray, List.set_cons_zero, List.set_cons_succ]
        refine takeF (i := 5) (v := ?_) rfl (fun _ => rfl) rfl (by kernel_rfl) (by kernel_rfl) (by kernel_rfl) (by kernel_rfl) (fun _ _ _ h => h) (by rfl) ?_ HT.out ?_
        rotate_left
        · intro V' hV; obtain ⟨d1, d2, dx⟩ := HL.out V' hV; go_simp <;> with_reducible rfl
        simp only [Act.put, List.setIfInBounds_toArray, List.set_cons_zero, List.set_cons_succ]
        refine takeF (i := 6) (v := ?_) rfl (fun _ => rfl) rfl (by kernel_rfl) (by kernel_rfl) (by kernel_rfl) (by kernel_rfl) (fun _ _ _ h => h) (by rfl) ?_ HT.out ?_
        rotate_left
        · intro V' hV; obtain ⟨d1, d2, dx⟩ := HL.out V' hV; go_simp <;> with_reducible rfl
        simp only [Act.put, List.setIfInBounds_toArray, List.set_cons_zero, List.set_cons_succ]
        refine takeQ (i := 7) (v := ?_) rfl (fun _ => rfl) rfl (by kernel_rfl) (by kernel_rfl) (by kernel_rfl) (by kernel_rfl) (fun _ _ _ h => h) (by rfl) ?_ (fun _ => HT.out) ?_
        rotate_left
        · intro V'; go_simp <;> with_reducible rfl
        simp only [Act.put, List.setIfInBounds_toArray, List.set_cons_zero, List.set_cons_succ]
        refine takeF (i := 8) (v := ?_) rfl (fun _ => rfl) rfl (by kernel_rfl) (by kernel_rfl) (by kernel_rfl) (by kernel_rfl) (fun _ _ _ h => h) (by rfl) ?_ HT.out ?_
        rotate_left
        · intro V' hV; obtain ⟨d1, d2, dx⟩ := HL.out V' hV; go_simp <;> with_reducible rfl
        simp only [Act.put, List.setIfInBounds_toArray, List.set_cons_zero, List.set_cons_succ]
        refine takeF (i := 9) (v := ?_) rfl (fun _ => rfl) rfl (by kernel_rfl) (by kernel_rfl) (by kernel_rfl) (by kernel_rfl) (fun _ _ _ h => h) (by rfl) ?_ HT.out ?_
        rotate_left
        · intro V' hV; obtain ⟨d1, d2, dx⟩ := HL.out V' hV; obtain ⟨c0, c1, c2, c3⟩ := dx; go_simp <;> with_reducible rfl
        simp only [Act.put, List.setIfInBounds_toArray, List.set_cons_zero, List.set_cons_succ]
        refine oneF (i := 10) rfl (by kernel_rfl) (by rfl) (fun K hK => ?_)
        go_simp
        refine ⟨trivial, fun h => (by cases h), (callsIn_wide.2 (HQ.out x _ (HK'.out.trans (KpD.of_below (below_dr (Below.refl _ w') 1) HN'.out HLl'.out)))).mono ?_⟩
        rintro e w1 ⟨rfl, bw⟩
        rw [HQx.out]
        have HBw := Lib.hid (show Below w'.heap.size w' w1 from (below_dr (Below.refl _ w') 1).trans bw)
        have hJ1 : J (pre.filter q) w1 := HJ.out _ w' w1 none HJp.out ⟨HBw.out.os, HBw.out.tape, HBw.out.output, HBw.out.size, fun i hi _ => HBw.out.block i hi⟩ (fun r e => by cases e)
        have HJ1 := Lib.hid hJ1
        refine hK.out _ _ (fun _ => HBw.out) ?_
        clear hK K bw hJ1
        refine takeQ (i := 11) (v := ?_) rfl (fun _ => rfl) rfl (by kernel_rfl) (by kernel_rfl) (by kernel_rfl) (by kernel_rfl) (fun _ _ _ h => h) (by rfl) ?_ (fun _ => HBw.out) ?_
        rotate_left
        · intro V'; go_simp <;> with_reducible rfl
        simp only [Act.put, List.setIfInBounds_toArray, List.set_cons_zero, List.set_cons_succ]
        refine skipF (i := 12) rfl (fun _ => rfl) rfl (by kernel_rfl) (by kernel_rfl) (by kernel_rfl) (by kernel_rfl) (fun _ _ _ h => h) (by rfl) (fun _ => HBw.out) ?_
        simp only [Act.put, List.setIfInBounds_toArray, List.set_cons_zero, List.set_cons_succ]
        refine skipF (i := 13) rfl (fun _ => rfl) rfl (by kernel_rfl) (by kernel_rfl) (by kernel_rfl) (by kernel_rfl) (fun _ _ _ h => h) (by rfl) (fun _ => HBw.out) ?_
        simp only [Act.put, List.setIfInBounds_toArray, List.set_cons_zero, List.set_cons_succ]
        refine skipF (i := 14) rfl (fun _ => rfl) rfl (by kernel_rfl) (by kernel_rfl) (by kernel_rfl) (by kernel_rfl) (fun _ _ _ h => h) (by rfl) (fun _ => HBw.out) ?_
        simp only [Act.put, List.setIfInBounds_toArray, List.set_cons_zero, List.set_cons_succ]
        refine skipF (i := 15) rfl (fun _ => rfl) rfl (by kernel_rfl) (by kernel_rfl) (by kernel_rfl) (by kernel_rfl) (fun _ _ _ h => h) (by rfl) (fun _ => HBw.out) ?_
        simp only [Act.put, List.setIfInBounds_toArray, List.set_cons_zero, List.set_cons_succ]
        refine skipF (i := 16) rfl (fun _ => rfl) rfl (by kernel_rfl) (by kernel_rfl) (by kernel_rfl) (by kernel_rfl) (fun _ _ _ h => h) (by rfl) (fun _ => HBw.out) ?_
        simp only [Act.put, List.setIfInBounds_toArray, List.set_cons_zero, List.set_cons_succ]
        refine skipF (i := 17) rfl (fun _ => rfl) rfl (by kernel_rfl) (by kernel_rfl) (by kernel_rfl) (by kernel_rfl) (fun _ _ _ h => h) (by rfl) (fun _ => HBw.out) ?_
        simp only [Act.put, List.setIfInBounds_toArray, List.set_cons_zero, List.set_cons_succ]
        refine skipF (i := 18) rfl (fun _ => rfl) rfl (by kernel_rfl) (by kernel_rfl) (by kernel_rfl) (by kernel_rfl) (fun _ _ _ h => h) (by rfl) (fun _ => HBw.out) ?_
        simp only [Act.put, List.setIfInBounds_toArray, List.set_cons_zero, List.set_cons_succ]
        refine takeQ (i := 19) (v := ?_) rfl (fun _ => rfl) rfl (by kernel_rfl) (by kernel_rfl) (by kernel_rfl) (by kernel_rfl) (fun _ _ _ h => h) (by rfl) ?_ (fun _ => HBw.out) ?_
        rotate_left
        · intro V'; go_simp <;> with_reducible rfl
        simp only [Act.put, List.setIfInBounds_toArray, List.set_cons_zero, List.set_cons_succ]
        refine takeQ (i := 20) (v := ?_) rfl (fun _ => rfl) rfl (by kernel_rfl) (by kernel_rfl) (by kernel_rfl) (by kernel_rfl) (fun _ _ _ h => h) (by rfl) ?_ (fun _ => HBw.out) ?_
        rotate_left
        · intro V'; go_simp <;> with_reducible rfl
        simp only [Act.put, List.setIfInBounds_toArray, List.set_cons_zero, List.set_cons_succ]
        refine doneF (by kernel_rfl) ?_ _
        have HKw := Lib.hid (KpD.of_below HBw.out HN'.out HLl'.out)
        gi_wp2_with fail
        refine wpIn_goto ?_
        have el : ((pre.length : Int) + 1) = ((pre ++ [x]).length : Int) := by simp
        rw [el]
        refine ⟨rfl, ⟨pre ++ [x], rest, _, _, _, _, _, _, _, _, _, _, _, _, _, _, _, _, _, _, _, _, _, _, _, rfl, by rw [Hx.out]; simp, HB1.out.under HBw.out, HB2.out.under HBw.out, Hr'.out.below HKw.out.1, HK'.out.trans HKw.out, by rw [filter_snoc, HQx.out]; simpa using HJ1.out⟩, ?_⟩
        have := Hl.out
        simp at this
        simp [intOf]; omega
      | true =>
        have HQx := Lib.hid hqx
        clear hqx
        gi_wp2_with fail
        refine wpIn_region_F (ls := [17]) (T := (fun V' : World => Below w'.heap.size w' V')) (by kernel_rfl) ?_
        refine takeQ (i := 0) (v := ?_) rfl (fun _ => rfl) rfl (by kernel_rfl) (by kernel_rfl) (by kernel_rfl) (by kernel_rfl) (fun _ _ _ h => h) (by rfl) ?_ (fun _ => HT.out) ?_
        rotate_left
        · intro V'; go_simp <;> with_reducible rfl
        simp only [Act.put, List.setIfInBounds_toArray, List.set_cons_zero, List.set_cons_succ]
        refine takeF (i := 1) (v := ?_) rfl (fun _ => rfl) rfl (by kernel_rfl) (by kernel_rfl) (by kernel_rfl) (by kernel_rfl) (fun _ _ _ h => h) (by rfl) ?_ HT.out ?_
        rotate_left
        · intro V' hV; obtain ⟨d1, d2, dx⟩ := HL.out V' hV; go_simp <;> with_reducible rfl
        simp only [Act.put, List.setIfInBounds_toArray, List.set_cons_zero, List.set_cons_succ]
        refine takeF (i := 2) (v := ?_) rfl (fun _ => rfl) rfl (by kernel_rfl) (by kernel_rfl) (by kernel_rfl) (by kernel_rfl) (fun _ _ _ h => h) (by rfl) ?_ HT.out ?_
        rotate_left
        · intro V' hV; obtain ⟨d1, d2, dx⟩ := HL.out V' hV; go_simp <;> with_reducible rfl
        simp only [Act.put, List.setIfInBounds_toArray, List.set_cons_zero, List.set_cons_succ]
        refine takeQ (i := 3) (v := .bool false) rfl (fun _ => rfl) rfl (by kernel_rfl) (by kernel_rfl) (by kernel_rfl) (by kernel_rfl) (fun _ _ _ h => h) (by rfl) ?_ (fun _ => HT.out) ?_
        · intro V'; go_simp <;> (try (first | exact hne | rfl))
        simp only [Act.put, List.setIfInBounds_toArray, List.set_cons_zero, List.set_cons_succ]
        refine takeQ (i := 4) (v := ?_) rfl (fun _ => rfl) rfl (by kernel_rfl) (by kernel_rfl) (by kernel_rfl) (by kernel_rfl) (fun _ _ _ h => h) (by rfl) ?_ (fun _ => HT.out) ?_
        rotate_left
        · intro V'; go_simp <;> with_reducible rfl
        simp only [Act.put, List.setIfInBounds_toArray, List.set_cons_zero, List.set_cons_succ]
        refine takeF (i := 5) (v := ?_) rfl (fun _ => rfl) rfl (by kernel_rfl) (by kernel_rfl) (by kernel_rfl) (by kernel_rfl) (fun _ _ _ h => h) (by rfl) ?_ HT.out ?_
        rotate_left
        · intro V' hV; obtain ⟨d1, d2, dx⟩ := HL.out V' hV; go_simp <;> with_reducible rfl
        simp only [Act.put, List.setIfInBounds_toArray, List.set_cons_zero, List.set_cons_succ]
        refine takeF (i := 6) (v := ?_) rfl (fun _ => rfl) rfl (by kernel_rfl) (by kernel_rfl) (by kernel_rfl) (by kernel_rfl) (fun _ _ _ h => h) (by rfl) ?_ HT.out ?_
        rotate_left
        · intro V' hV; obtain ⟨d1, d2, dx⟩ := HL.out V' hV; go_simp <;> with_reducible rfl
        simp only [Act.put, List.setIfInBounds_toArray, List.set_cons_zero, List.set_cons_succ]
        refine takeQ (i := 7) (v := ?_) rfl (fun _ => rfl) rfl (by kernel_rfl) (by kernel_rfl) (by kernel_rfl) (by kernel_rfl) (fun _ _ _ h => h) (by rfl) ?_ (fun _ => HT.out) ?_
        rotate_left
        · intro V'; go_simp <;> with_reducible rfl
        simp only [Act.put, List.setIfInBounds_toArray, List.set_cons_zero, List.set_cons_succ]
        refine takeF (i := 8) (v := ?_) rfl (fun _ => rfl) rfl (by kernel_rfl) (by kernel_rfl) (by kernel_rfl) (by kernel_rfl) (fun _ _ _ h => h) (by rfl) ?_ HT.out ?_
        rotate_left
        · intro V' hV; obtain ⟨d1, d2, dx⟩ := HL.out V' hV; go_simp <;> with_reducible rfl
        simp only [Act.put, List.setIfInBounds_toArray, List.set_cons_zero, List.set_cons_succ]
        refine takeF (i := 9) (v := ?_) rfl (fun _ => rfl) rfl (by kernel_rfl) (by kernel_rfl) (by kernel_rfl) (by kernel_rfl) (fun _ _ _ h => h) (by rfl) ?_ HT.out ?_
        rotate_left
        · intro V' hV; obtain ⟨d1, d2, dx⟩ := HL.out V' hV; obtain ⟨c0, c1, c2, c3⟩ := dx; go_simp <;> with_reducible rfl
        simp only [Act.put, List.setIfInBounds_toArray, List.set_cons_zero, List.set_cons_succ]
        refine oneF (i := 10) rfl (by kernel_rfl) (by rfl) (fun K hK => ?_)
        go_simp
        refine ⟨trivial, fun h => (by cases h), (callsIn_wide.2 (HQ.out x _ (HK'.out.trans (KpD.of_below (below_dr (Below.refl _ w') 1) HN'.out HLl'.out)))).mono ?_⟩
        rintro e w1 ⟨rfl, bw⟩
        rw [HQx.out]
        have HBw := Lib.hid (show Below w'.heap.size w' w1 from (below_dr (Below.refl _ w') 1).trans bw)
        have hJ1 : J (pre.filter q) w1 := HJ.out _ w' w1 none HJp.out ⟨HBw.out.os, HBw.out.tape, HBw.out.output, HBw.out.size, fun i hi _ => HBw.out.block i hi⟩ (fun r e => by cases e)
        have HJ1 := Lib.hid hJ1
        refine hK.out _ _ (fun _ => HBw.out) ?_
        clear hK K bw hJ1
        refine takeQ (i := 11) (v := ?_) rfl (fun _ => rfl) rfl (by kernel_rfl) (by kernel_rfl) (by kernel_rfl) (by kernel_rfl) (fun _ _ _ h => h) (by rfl) ?_ (fun _ => HBw.out) ?_
        rotate_left
        · intro V'; go_simp <;> with_reducible rfl
        simp only [Act.put, List.setIfInBounds_toArray, List.set_cons_zero, List.set_cons_succ]
        refine takeQ (i := 12) (v := ?_) rfl (fun _ => rfl) rfl (by kernel_rfl) (by kernel_rfl) (by kernel_rfl) (by kernel_rfl) (fun _ _ _ h => h) (by rfl) ?_ (fun _ => HBw.out) ?_
        rotate_left
        · intro V'; go_simp <;> with_reducible rfl
        simp only [Act.put, List.setIfInBounds_toArray, List.set_cons_zero, List.set_cons_succ]
        refine takeF (i := 13) (v := ?_) rfl (fun _ => rfl) rfl (by kernel_rfl) (by kernel_rfl) (by kernel_rfl) (by kernel_rfl) (fun _ _ _ h => h) (by rfl) ?_ HBw.out ?_
        rotate_left
        · intro V' hV; obtain ⟨d1, d2, dx⟩ := HL.out V' hV; go_simp <;> with_reducible rfl
        simp only [Act.put, List.setIfInBounds_toArray, List.set_cons_zero, List.set_cons_succ]
        refine takeQ (i := 14) (v := ?_) rfl (fun _ => rfl) rfl (by kernel_rfl) (by kernel_rfl) (by kernel_rfl) (by kernel_rfl) (fun _ _ _ h => h) (by rfl) ?_ (fun _ => HBw.out) ?_
        rotate_left
        · intro V'; go_simp <;> with_reducible rfl
        simp only [Act.put, List.setIfInBounds_toArray, List.set_cons_zero, List.set_cons_succ]
        refine takeF (i := 15) (v := ?_) rfl (fun _ => rfl) rfl (by kernel_rfl) (by kernel_rfl) (by kernel_rfl) (by kernel_rfl) (fun _ _ _ h => h) (by rfl) ?_ HBw.out ?_
        rotate_left
        · intro V' hV; obtain ⟨d1, d2, dx⟩ := HL.out V' hV; go_simp <;> with_reducible rfl
        simp only [Act.put, List.setIfInBounds_toArray, List.set_cons_zero, List.set_cons_succ]
        refine takeF (i := 16) (v := ?_) rfl (fun _ => rfl) rfl (by kernel_rfl) (by kernel_rfl) (by kernel_rfl) (by kernel_rfl) (fun _ _ _ h => h) (by rfl) ?_ HBw.out ?_
        rotate_left
        · intro V' hV; obtain ⟨d1, d2, dx⟩ := HL.out V' hV; obtain ⟨c0, c1, c2, c3⟩ := dx; go_simp <;> with_reducible rfl
        simp only [Act.put, List.setIfInBounds_toArray, List.set_cons_zero, List.set_cons_succ]
        obtain ⟨fn, tmps, assign, body, hy, hR⟩ := HY.out (pre.filter q) x w1 HJ1.out (filter_next_pre Hx.out HQx.out)
        have HR := Lib.hid hR
        clear hR
        refine oneM (i := 17) (by kernel_rfl) rfl (by kernel_rfl) (by rfl) (fun K hK => ?_)
        go_simp
        refine ⟨fun h => (by cases h), HR.out.mono ?_⟩
        rintro e W3 (⟨rfl, hJ3, hk3⟩ | ⟨rfl, hJx3⟩)
        · have HJ3 := Lib.hid hJ3
          have HKw := Lib.hid ((KpD.of_below HBw.out HN'.out HLl'.out).trans hk3)
          clear hJ3 hk3
          refine hK.out _ _ ?_
          clear hK K
          refine takeQ (i := 18) (v := ?_) rfl (fun _ => rfl) rfl (by kernel_rfl) (by kernel_rfl) (by kernel_rfl) (by kernel_rfl) (fun _ _ _ h => h) (by rfl) ?_ (fun h => absurd h (by decide)) ?_
          rotate_left
          · intro V'; go_simp <;> with_reducible rfl
          simp only [Act.put, List.setIfInBounds_toArray, List.set_cons_zero, List.set_cons_succ]
          refine takeQ (i := 19) (v := ?_) rfl (fun _ => rfl) rfl (by kernel_rfl) (by kernel_rfl) (by kernel_rfl) (by kernel_rfl) (fun _ _ _ h => h) (by rfl) ?_ (fun h => absurd h (by decide)) ?_
          rotate_left
          · intro V'; go_simp <;> with_reducible rfl
          simp only [Act.put, List.setIfInBounds_toArray, List.set_cons_zero, List.set_cons_succ]
          refine takeQ (i := 20) (v := ?_) rfl (fun _ => rfl) rfl (by kernel_rfl) (by kernel_rfl) (by kernel_rfl) (by kernel_rfl) (fun _ _ _ h => h) (by rfl) ?_ (fun h => absurd h (by decide)) ?_
          rotate_left
          · intro V'; go_simp <;> with_reducible rfl
          simp only [Act.put, List.setIfInBounds_toArray, List.set_cons_zero, List.set_cons_succ]
          refine doneF (by kernel_rfl) ?_ _
          gi_wp2_with fail
          refine wpIn_goto ?_
          have el : ((pre.length : Int) + 1) = ((pre ++ [x]).length : Int) := by simp
          rw [el]
          refine ⟨rfl, ⟨pre ++ [x], rest, _, _, _, _, _, _, _, _, _, _, _, _, _, _, _, _, _, _, _, _, _, _, _, rfl, by rw [Hx.out]; simp, HB1.out.kpd HKw.out H1.out, HB2.out.kpd HKw.out H2.out, Hr'.out.below HKw.out.1, HK'.out.trans HKw.out, by rw [filter_snoc, HQx.out]; exact HJ3.out⟩, ?_⟩
          have := Hl.out
          simp at this
          simp [intOf]; omega
        · have HJx := Lib.hid hJx3
          clear hJx3
          refine hK.out _ _ ?_
          clear hK K
          refine takeQ (i := 18) (v := ?_) rfl (fun _ => rfl) rfl (by kernel_rfl) (by kernel_rfl) (by kernel_rfl) (by kernel_rfl) (fun _ _ _ h => h) (by rfl) ?_ (fun h => absurd h (by decide)) ?_
          rotate_left
          · intro V'; go_simp <;> with_reducible rfl
          simp only [Act.put, List.setIfInBounds_toArray, List.set_cons_zero, List.set_cons_succ]
          refine takeQ (i := 19) (v := ?_) rfl (fun _ => rfl) rfl (by kernel_rfl) (by kernel_rfl) (by kernel_rfl) (by kernel_rfl) (fun _ _ _ h => h) (by rfl) ?_ (fun h => absurd h (by decide)) ?_
          rotate_left
          · intro V'; go_simp <;> with_reducible rfl
          simp only [Act.put, List.setIfInBounds_toArray, List.set_cons_zero, List.set_cons_succ]
          refine takeQ (i := 20) (v := ?_) rfl (fun _ => rfl) rfl (by kernel_rfl) (by kernel_rfl) (by kernel_rfl) (by kernel_rfl) (fun _ _ _ h => h) (by rfl) ?_ (fun h => absurd h (by decide)) ?_
          rotate_left
          · intro V'; go_simp <;> with_reducible rfl
          simp only [Act.put, List.setIfInBounds_toArray, List.set_cons_zero, List.set_cons_succ]
          refine doneF (by kernel_rfl) ?_ _
          gi_wp2_with fail
          simp only [Exit.jump]
          refine bodyPost_ret (results_none rfl _ _ _) rfl ?_
          exact ⟨⟨_, rfl⟩, .inr HJx.out⟩

/-- The iterator hands over those of the row of which the closure says yes, in order. -/
theorem itIn_mem (m b1 b2 n₀ : Nat) (L : List Nat) (F : FuncId) (lb : Array Value) (q : It → Bool) (A : Option Addr) (n c : Nat) (xs : List It) (hn : n ≤ 1000000) (hm : 1 ≤ m) (h1 : b1 ∈ L) (h2 : b2 ∈ L)
    (eg : ∀ args w, (callFunc F args).run Tryd.prog w = .ok (.enter F args) w) (w : World)
    (hq : ∀ (x : It) (W : World), KpD n₀ L w W → Calls Tryd.prog F (#[.agg #[.int .i64 x.tok, .int .i64 x.ver, .int .i64 x.zone, .bool x.warm]] ++ lb) W (BoolPost (q x) W))
    (hB1 : Whole w b1 25 #[.slice A n c]) (hB2 : Whole w b2 55 #[.func (.func F) #[] lb]) (hr : RdI w n₀ A n xs) (hN : n₀ ≤ w.heap.size) (hL : ∀ b ∈ L, b < w.heap.size) :
    SeqMem m Tryd.prog 59 #[.pointer (some ⟨b1, 0, none⟩), .pointer (some ⟨b2, 0, none⟩)] encIt (OkIn (xs.filter q)) (KpD n₀ L) (fun ys => ys = xs.filter q) w := fun l J Jx W hW hJ hY h0 =>
  have hk : KpD n₀ L w W := KpD.of_below hW hN hL
  itIn1_in m l b1 b2 n₀ L F lb q A n c xs hn hm h1 h2 eg J Jx W (fun x V hV => hq x V (hk.trans hV)) (fun pre x V hV hp => hY pre x V hV hp) hJ (hB1.under hW) (hB2.under hW) (hr.below (hW.mono hN)) (Nat.le_trans hN hW.size) (fun b hb => Nat.lt_of_lt_of_le (hL b hb) hW.size) h0

/-- The iterator that is handed back, and its two boxes. -/
def kpInPost (A : Option Addr) (n c : Nat) (fv : Value) (w : World) (e : Ending) (w' : World) : Prop :=
  ∃ b1 b2, e = .returned (.func (.func 60) #[] #[.pointer (some ⟨b1, 0, none⟩), .pointer (some ⟨b2, 0, none⟩)]) ∧ w.heap.size ≤ b1 ∧ w.heap.size ≤ b2 ∧ Whole w' b1 26 #[.slice A n c] ∧ Whole w' b2 56 #[fv] ∧ Below w.heap.size w w'
set_option maxHeartbeats 400000 in
theorem kpIn_any (A : Option Addr) (n c : Nat) (F : FuncId) (lb : Array Value) (w : World) :
    Calls Tryd.prog 37 #[.slice A n c, .func (.func F) #[] lb] w (kpInPost A n c (.func (.func F) #[] lb) w) := by
  obtain ⟨hb, w0, w1⟩ := two_new w 26 56 #[.slice A n c] #[.func (.func F) #[] lb]
  have h0 := hb
  go_enter Tryd.func37, Tryd.ntmps37
  go_wp2_with fail
  go_ret
  exact ⟨w.heap.size, w.heap.size + 1, rfl, by omega, by omega, w0, w1, h0⟩

/-- Where the iterator stands. -/
def kpInAt (l b1 b2 n₀ : Nat) (L : List Nat) (F : FuncId) (lb : Array Value) (q : Kp → Bool) (A : Option Addr) (n c : Nat) (xs : List Kp) (J : List Kp → World → Prop) (W0 : World) (a' : Act) (w' : World) : Prop :=
  ∃ (pre : List Kp) (rest : List Kp) (u5 u6 u7 u8 u9 u10 u11 u12 u13 u14 u15 u16 u17 u18 u19 u20 u21 u22 u23 u24 u25 u26 u27 : Value), a' = { tmps := #[.func (.yield l) #[] #[], .pointer (some ⟨b1, 0, none⟩), .pointer (some ⟨b2, 0, none⟩), undef, .int .i64 (pre.length : Int), u5, u6, u7, u8, u9, u10, u11, u12, u13, u14, u15, u16, u17, u18, u19, u20, u21, u22, u23, u24, u25, u26, u27], defers := [] } ∧ xs = pre ++ rest ∧ Whole w' b1 26 #[.slice A n c] ∧ Whole w' b2 56 #[.func (.func F) #[] lb] ∧ RdK w' n₀ A n xs ∧ KpD n₀ L W0 w' ∧ J (pre.filter q) w'

set_option maxRecDepth 100000 in
set_option maxHeartbeats 4000000 in
theorem kpIn1_in (m l b1 b2 n₀ : Nat) (L : List Nat) (F : FuncId) (lb : Array Value) (q : Kp → Bool) (A : Option Addr) (n c : Nat) (xs : List Kp) (hn : n ≤ 1000000) (hm : 1 ≤ m) (h1 : b1 ∈ L) (h2 : b2 ∈ L)
    (eg : ∀ args w, (callFunc F args).run Tryd.prog w = .ok (.enter F args) w)
    (J : List Kp → World → Prop) (Jx : World → Prop) (W0 : World)
    (hq : ∀ (x : Kp) (W : World), KpD n₀ L W0 W → Calls Tryd.prog F (#[x.v] ++ lb) W (BoolPost (q x) W))
    (hY : ∀ pre x W, J pre W → pre ++ [x] <+: xs.filter q → YieldAt Fence.wide (m - 1) Tryd.prog l #[x.v] W fun e W' =>
      (e = .returned (.bool true) ∧ J (pre ++ [x]) W' ∧ KpD n₀ L W W') ∨ (e = .returned (.bool false) ∧ Jx W'))
    (hJ : AbidesFrom W0.heap.size J) (hB1 : Whole W0 b1 26 #[.slice A n c]) (hB2 : Whole W0 b2 56 #[.func (.func F) #[] lb]) (hr : RdK W0 n₀ A n xs) (hN : n₀ ≤ W0.heap.size) (hL : ∀ b ∈ L, b < W0.heap.size) (h0 : J [] W0) :
    CallsIn Fence.wide m Tryd.prog 60 #[.func (.yield l) #[] #[], .pointer (some ⟨b1, 0, none⟩), .pointer (some ⟨b2, 0, none⟩)] W0 fun e W' => (∃ v, e = .returned v) ∧
      ((∃ ys, ys = xs.filter q ∧ J ys W') ∨ Jx W') := by
  have HY := Lib.hid hY
  have HQ := Lib.hid hq
  have Hr := Lib.hid hr
  have H1 := Lib.hid h1
  have H2 := Lib.hid h2
  have HJ := Lib.hid hJ
  have HN := Lib.hid hN
  have HLl := Lib.hid hL
  have HM := Lib.hid hm
  have H0 := Lib.hid h0
  have HB1 := Lib.hid hB1
  have HB2 := Lib.hid hB2
  clear hY hr h1 h2 hJ hN hm h0 hq hL hB1 hB2
  refine callsIn_of_wp Tryd.func60 rfl trivial ?_ rfl
  simp only [Tryd.ntmps60, List.size_toArray, List.length_cons, List.length_nil, Nat.reduceAdd, Nat.reduceSub, Array.replicate_succ, Array.replicate_zero, List.push_toArray, List.append_toArray, List.nil_append, List.cons_append]
  gi_wp2_with fail
  refine wpIn_wide.2 (wp_scope_back_behind 0 (kpInAt l b1 b2 n₀ L F lb q A n c xs J W0)
    (fun a' _ => n - (intOf (a'.tmps.getD 4 undef)).toNat) rfl (wpIn_wide (n := m).1 ?ahead) (fun a' w' hJ' => wpIn_wide (n := m).1 ?pass))
  case ahead =>
    gi_wp2_with fail
    exact ⟨[], xs, _, _, _, _, _, _, _, _, _, _, _, _, _, _, _, _, _, _, _, _, _, _, _, rfl, rfl, HB1.out, HB2.out, Hr.out, KpD.refl _ _ _, H0.out⟩
  case pass =>
    obtain ⟨pre, rest, u5, u6, u7, u8, u9, u10, u11, u12, u13, u14, u15, u16, u17, u18, u19, u20, u21, u22, u23, u24, u25, u26, u27, rfl, hx, hB1', hB2', hr', hk', hJp⟩ := hJ'
    clear HB1 HB2
    have HB1 := Lib.hid hB1'
    have HB2 := Lib.hid hB2'
    have Hr' := Lib.hid hr'
    have HK' := Lib.hid hk'
    have HN' := Lib.hid (show n₀ ≤ w'.heap.size from Nat.le_trans HN.out hk'.1.size)
    have HLl' := Lib.hid (show ∀ b ∈ L, b < w'.heap.size from fun b hb => Nat.lt_of_lt_of_le (HLl.out b hb) hk'.1.size)
    have Hx := Lib.hid hx
    have HJp := Lib.hid hJp
    have hl : pre.length + rest.length = n := by have := hr'.1; rw [hx, List.length_append] at this; exact this
    clear hr' hx hJp hk' hB1' hB2'
    have hszd : ∀ V' : World, Below w'.heap.size w' V' → Below w'.heap.size w' V' := fun _ h => h
    have HT : Hid ((fun V' : World => Below w'.heap.size w' V') w'.drew) := Lib.hid (below_dr (Below.refl _ w') 1)
    cases rest with
    | nil =>
      have hge : decide (pre.length < n) = false := by simp at hl ⊢; omega
      have hgn : (pre.length : Int) = (n : Int) := by simp at hl; omega
      have HE := Lib.hid (show xs.filter q = pre.filter q by rw [Hx.out, List.append_nil])
      clear hl
      have HL : Hid (∀ V' : World, Below w'.heap.size w' V' → V'.cell? ⟨b1, 0, none⟩ = some (.slice A n c) ∧ V'.cell? ⟨b2, 0, none⟩ = some (.func (.func F) #[] lb) ∧ True) := Lib.hid (fun V' h => ⟨(HB1.out.under h).cell 0, (HB2.out.under h).cell 0, trivial⟩)
      gi_wp2_with fail
      refine wpIn_region_F (ls := []) (T := (fun V' : World => Below w'.heap.size w' V')) (by kernel_rfl) ?_
      refine takeQ (i := 0) (v := ?_) rfl (fun _ => rfl) rfl (by kernel_rfl) (by kernel_rfl) (by kernel_rfl) (by kernel_rfl) (fun _ _ _ h => h) (by rfl) ?_ (fun _ => HT.out) ?_
      rotate_left
      · intro V'; go_simp <;> with_reducible rfl
      simp only [Act.put, List.setIfInBounds_toArray, List.set_cons_zero, List.set_cons_succ]
      refine takeF (i := 1) (v := ?_) rfl (fun _ => rfl) rfl (by kernel_rfl) (by kernel_rfl) (by kernel_rfl) (by kernel_rfl) (fun _ _ _ h => h) (by rfl) ?_ HT.out ?_
      rotate_left
      · intro V' hV; obtain ⟨d1, d2, dx⟩ := HL.out V' hV; go_simp <;> with_reducible rfl
      simp only [Act.put, List.setIfInBounds_toArray, List.set_cons_zero, List.set_cons_succ]
      refine takeF (i := 2) (v := ?_) rfl (fun _ => rfl) rfl (by kernel_rfl) (by kernel_rfl) (by kernel_rfl) (by kernel_rfl) (fun _ _ _ h => h) (by rfl) ?_ HT.out ?_
      rotate_left
      · intro V' hV; obtain ⟨d1, d2, dx⟩ := HL.out V' hV; go_simp <;> with_reducible rfl
      simp only [Act.put, List.setIfInBounds_toArray, List.set_cons_zero, List.set_cons_succ]
      refine takeQ (i := 3) (v := .bool true) rfl (fun _ => rfl) rfl (by kernel_rfl) (by kernel_rfl) (by kernel_rfl) (by kernel_rfl) (fun _ _ _ h => h) (by rfl) ?_ (fun _ => HT.out) ?_
      · intro V'; go_simp <;> (try (first | exact hgn | rfl))
      simp only [Act.put, List.setIfInBounds_toArray, List.set_cons_zero, List.set_cons_succ]
      refine takeQ (i := 4) (v := ?_) rfl (fun _ => rfl) rfl (by kernel_rfl) (by kernel_rfl) (by kernel_rfl) (by kernel_rfl) (fun _ _ _ h => h) (by rfl) ?_ (fun _ => HT.out) ?_
      rotate_left
      · intro V'; go_simp <;> with_reducible rfl
      simp only [Act.put, List.setIfInBounds_toArray, List.set_cons_zero, List.set_cons_succ]
      refine skipF (i := 5) rfl (fun _ => rfl) rfl (by kernel_rfl) (by kernel_rfl) (by kernel_rfl) (by kernel_rfl) (fun _ _ _ h => h) (by rfl) (fun _ => HT.out) ?_
      simp only [Act.put, List.setIfInBounds_toArray, List.set_cons_zero, List.set_cons_succ]
      refine skipF (i := 6) rfl (fun _ => rfl) rfl (by kernel_rfl) (by kernel_rfl) (by kernel_rfl) (by kernel_rfl) (fun _ _ _ h => h) (by rfl) (fun _ => HT.out) ?_
      simp only [Act.put, List.setIfInBounds_toArray, List.set_cons_zero, List.set_cons_succ]
      refine skipF (i := 7) rfl (fun _ => rfl) rfl (by kernel_rfl) (by kernel_rfl) (by kernel_rfl) (by kernel_rfl) (fun _ _ _ h => h) (by rfl) (fun _ => HT.out) ?_
      simp only [Act.put, List.setIfInBounds_toArray, List.set_cons_zero, List.set_cons_succ]
      refine skipF (i := 8) rfl (fun _ => rfl) rfl (by kernel_rfl) (by kernel_rfl) (by kernel_rfl) (by kernel_rfl) (fun _ _ _ h => h) (by rfl) (fun _ => HT.out) ?_
      simp only [Act.put, List.setIfInBounds_toArray, List.set_cons_zero, List.set_cons_succ]
      refine skipF (i := 9) rfl (fun _ => rfl) rfl (by kernel_rfl) (by kernel_rfl) (by kernel_rfl) (by kernel_rfl) (fun _ _ _ h => h) (by rfl) (fun _ => HT.out) ?_
      simp only [Act.put, List.setIfInBounds_toArray, List.set_cons_zero, List.set_cons_succ]
      refine skipF (i := 10) rfl (fun _ => rfl) rfl (by kernel_rfl) (by kernel_rfl) (by kernel_rfl) (by kernel_rfl) (fun _ _ _ h => h) (by rfl) (fun _ => HT.out) ?_
      simp only [Act.put, List.setIfInBounds_toArray, List.set_cons_zero, List.set_cons_succ]
      refine skipF (i := 11) rfl (fun _ => rfl) rfl (by kernel_rfl) (by kernel_rfl) (by kernel_rfl) (by kernel_rfl) (fun _ _ _ h => h) (by rfl) (fun _ => HT.out) ?_
      simp only [Act.put, List.setIfInBounds_toArray, List.set_cons_zero, List.set_cons_succ]
      refine skipF (i := 12) rfl (fun _ => rfl) rfl (by kernel_rfl) (by kernel_rfl) (by kernel_rfl) (by kernel_rfl) (fun _ _ _ h => h) (by rfl) (fun _ => HT.out) ?_
      simp only [Act.put, List.setIfInBounds_toArray, List.set_cons_zero, List.set_cons_succ]
      refine skipF (i := 13) rfl (fun _ => rfl) rfl (by kernel_rfl) (by kernel_rfl) (by kernel_rfl) (by kernel_rfl) (fun _ _ _ h => h) (by rfl) (fun _ => HT.out) ?_
      simp only [Act.put, List.setIfInBounds_toArray, List.set_cons_zero, List.set_cons_succ]
      refine skipF (i := 14) rfl (fun _ => rfl) rfl (by kernel_rfl) (by kernel_rfl) (by kernel_rfl) (by kernel_rfl) (fun _ _ _ h => h) (by rfl) (fun _ => HT.out) ?_
      simp only [Act.put, List.setIfInBounds_toArray, List.set_cons_zero, List.set_cons_succ]
      refine skipF (i := 15) rfl (fun _ => rfl) rfl (by kernel_rfl) (by kernel_rfl) (by kernel_rfl) (by kernel_rfl) (fun _ _ _ h => h) (by rfl) (fun _ => HT.out) ?_
      simp only [Act.put, List.setIfInBounds_toArray, List.set_cons_zero, List.set_cons_succ]
      refine skipF (i := 16) rfl (fun _ => rfl) rfl (by kernel_rfl) (by kernel_rfl) (by kernel_rfl) (by kernel_rfl) (fun _ _ _ h => h) (by rfl) (fun _ => HT.out) ?_
      simp only [Act.put, List.setIfInBounds_toArray, List.set_cons_zero, List.set_cons_succ]
      refine skipF (i := 17) rfl (fun _ => rfl) rfl (by kernel_rfl) (by kernel_rfl) (by kernel_rfl) (by kernel_rfl) (fun _ _ _ h => h) (by rfl) (fun _ => HT.out) ?_
      simp only [Act.put, List.setIfInBounds_toArray, List.set_cons_zero, List.set_cons_succ]
      refine skipF (i := 18) rfl (fun _ => rfl) rfl (by kernel_rfl) (by kernel_rfl) (by kernel_rfl) (by kernel_rfl) (fun _ _ _ h => h) (by rfl) (fun _ => HT.out) ?_
      simp only [Act.put, List.setIfInBounds_toArray, List.set_cons_zero, List.set_cons_succ]
      refine skipF (i := 19) rfl (fun _ => rfl) rfl (by kernel_rfl) (by kernel_rfl) (by kernel_rfl) (by kernel_rfl) (fun _ _ _ h => h) (by rfl) (fun _ => HT.out) ?_
      simp only [Act.put, List.setIfInBounds_toArray, List.set_cons_zero, List.set_cons_succ]
      refine takeQ (i := 20) (v := ?_) rfl (fun _ => rfl) rfl (by kernel_rfl) (by kernel_rfl) (by kernel_rfl) (by kernel_rfl) (fun _ _ _ h => h) (by rfl) ?_ (fun _ => HT.out) ?_
      rotate_left
      · intro V'; go_simp <;> with_reducible rfl
      simp only [Act.put, List.setIfInBounds_toArray, List.set_cons_zero, List.set_cons_succ]
      refine doneF (by kernel_rfl) ?_ _
      gi_wp2_with fail
      simp only [Exit.jump]
      refine bodyPost_ret (results_none rfl _ _ _) rfl ?_
      exact ⟨⟨_, rfl⟩, .inl ⟨_, HE.out.symm, HJ.out _ _ _ none HJp.out ⟨rfl, rfl, rfl, Nat.le_refl _, fun _ _ _ => rfl⟩ (fun r e => by cases e)⟩⟩
    | cons x rest =>
      have hltn : pre.length < n := by simp at hl; omega
      have hne : ¬ (pre.length : Int) = (n : Int) := by omega
      have hlt : (pre.length : Int) < (n : Int) := by omega
      have hx : xs[pre.length]? = some x := by rw [Hx.out]; simp
      obtain ⟨b, off, rfl, hb, hc⟩ := RdK.at_ Hr'.out (by omega)
      have HC := Lib.hid (hc _ _ hx)
      have hbs : b < n₀ := hb
      have Hb := Lib.hid hbs
      have Hl := Lib.hid hl
      clear hc hx hl hb hbs
      have HL : Hid (∀ V' : World, Below w'.heap.size w' V' → V'.cell? ⟨b1, 0, none⟩ = some (.slice (some ⟨b, off, none⟩) n c) ∧ V'.cell? ⟨b2, 0, none⟩ = some (.func (.func F) #[] lb) ∧ KpAt V' b (off + pre.length * 8) x) :=
        Lib.hid (fun V' h => ⟨(HB1.out.under h).cell 0, (HB2.out.under h).cell 0, KpAt_below HC.out (h.mono HN'.out) Hb.out⟩)
      cases hqx : q x with
      | false =>
        have HQx := Lib.hid hqx
        clear hqx
        gi_wp2_with fail
        refine wpIn_region_F (ls := []) (T := (fun V' : World => Below w'.heap.size w' V')) (by kernel_rfl) ?_
        refine takeQ (i := 0) (v := ?_) rfl (fun _ => rfl) rfl (by kernel_rfl) (by kernel_rfl) (by kernel_rfl) (by kernel_rfl) (fun _ _ _ h => h) (by rfl) ?_ (fun _ => HT.out) ?_
        rotate_left
        · intro V'; go_simp <;> with_reducible rfl
        simp only [Act.put, List.setIfInBounds_toArray, List.set_cons_zero, List.set_cons_succ]
        refine takeF (i := 1) (v := ?_) rfl (fun _ => rfl) rfl (by kernel_rfl) (by kernel_rfl) (by kernel_rfl) (by kernel_rfl) (fun _ _ _ h => h) (by rfl) ?_ HT.out ?_
        rotate_left
        · intro V' hV; obtain ⟨d1, d2, dx⟩ := HL.out V' hV; go_simp <;> with_reducible rfl
        simp only [Act.put, List.setIfInBounds_toArray, List.set_cons_zero, List.set_cons_succ]
        refine takeF (i := 2) (v := ?_) rfl (fun _ => rfl) rfl (by kernel_rfl) (by kernel_rfl) (by kernel_rfl) (by kernel_rfl) (fun _ _ _ h => h) (by rfl) ?_ HT.out ?_
        rotate_left
        · intro V' hV; obtain ⟨d1, d2, dx⟩ := HL.out V' hV; go_simp <;> with_reducible rfl
        simp only [Act.put, List.setIfInBounds_toArray, List.set_cons_zero, List.set_cons_succ]
        refine takeQ (i := 3) (v := .bool false) rfl (fun _ => rfl) rfl (by kernel_rfl) (by kernel_rfl) (by kernel_rfl) (by kernel_rfl) (fun _ _ _ h => h) (by rfl) ?_ (fun _ => HT.out) ?_
        · intro V'; go_simp <;> (try (first | exact hne | rfl))
        simp only [Act.put, List.setIfInBounds_toArray, List.set_cons_zero, List.set_cons_succ]
        refine takeQ (i := 4) (v := ?_) rfl (fun _ => rfl) rfl (by kernel_rfl) (by kernel_rfl) (by kernel_rfl) (by kernel_rfl) (fun _ _ _ h => h) (by rfl) ?_ (fun _ => HT.out) ?_
        rotate_left
        · intro V'; go_simp <;> with_reducible rfl
        simp only [Act.put, List.setIfInBounds_toArray, List.set_cons_zero, List.set_cons_succ]
        refine takeF (i := 5) (v := ?_) rfl (fun _ => rfl) rfl (by kernel_rfl) (by kernel_rfl) (by kernel_rfl) (by kernel_rfl) (fun _ _ _ h => h) (by rfl) ?_ HT.out ?_
        rotate_left
        · intro V' hV; obtain ⟨d1, d2, dx⟩ := HL.out V' hV; go_simp <;> with_reducible rfl
        simp only [Act.put, List.setIfInBounds_toArray, List.set_cons_zero, List.set_cons_succ]
        refine takeF (i := 6) (v := ?_) rfl (fun _ => rfl) rfl (by kernel_rfl) (by kernel_rfl) (by kernel_rfl) (by kernel_rfl) (fun _ _ _ h => h) (by rfl) ?_ HT.out ?_
        rotate_left
        · intro V' hV; obtain ⟨d1, d2, dx⟩ := HL.out V' hV; go_simp <;> with_reducible rfl
        simp only [Act.put, List.setIfInBounds_toArray, List.set_cons_zero, List.set_cons_succ]
        refine takeQ (i := 7) (v := ?_) rfl (fun _ => rfl) rfl (by kernel_rfl) (by kernel_rfl) (by kernel_rfl) (by kernel_rfl) (fun _ _ _ h => h) (by rfl) ?_ (fun _ => HT.out) ?_
        rotate_left
        · intro V'; go_simp <;> with_reducible rfl
        simp only [Act.put, List.setIfInBounds_toArray, List.set_cons_zero, List.set_cons_succ]
        refine takeF (i := 8) (v := ?_) rfl (fun _ => rfl) rfl (by kernel_rfl) (by kernel_rfl) (by kernel_rfl) (by kernel_rfl) (fun _ _ _ h => h) (by rfl) ?_ HT.out ?_
        rotate_left
        · intro V' hV; obtain ⟨d1, d2, dx⟩ := HL.out V' hV; go_simp <;> with_reducible rfl
        simp only [Act.put, List.setIfInBounds_toArray, List.set_cons_zero, List.set_cons_succ]
        refine takeF (i := 9) (v := ?_) rfl (fun _ => rfl) rfl (by kernel_rfl) (by kernel_rfl) (by kernel_rfl) (by kernel_rfl) (fun _ _ _ h => h) (by rfl) ?_ HT.out ?_
        rotate_left
        · intro V' hV; obtain ⟨d1, d2, dx⟩ := HL.out V' hV; obtain ⟨c0, c1, c2, c3, c4, c5, c6, c7⟩ := dx; go_simp <;> with_reducible rfl
        simp only [Act.put, List.setIfInBounds_toArray, List.set_cons_zero, List.set_cons_succ]
        refine oneF (i := 10) rfl (by kernel_rfl) (by rfl) (fun K hK => ?_)
        go_simp
        refine ⟨trivial, fun h => (by cases h), (callsIn_wide.2 (HQ.out x _ (HK'.out.trans (KpD.of_below (below_dr (Below.refl _ w') 1) HN'.out HLl'.out)))).mono ?_⟩
        rintro e w1 ⟨rfl, bw⟩
        rw [HQx.out]
        have HBw := Lib.hid (show Below w'.heap.size w' w1 from (below_dr (Below.refl _ w') 1).trans bw)
        have hJ1 : J (pre.filter q) w1 := HJ.out _ w' w1 none HJp.out ⟨HBw.out.os, HBw.out.tape, HBw.out.output, HBw.out.size, fun i hi _ => HBw.out.block i hi⟩ (fun r e => by cases e)
        have HJ1 := Lib.hid hJ1
        refine hK.out _ _ (fun _ => HBw.out) ?_
        clear hK K bw hJ1
        refine takeQ (i := 11) (v := ?_) rfl (fun _ => rfl) rfl (by kernel_rfl) (by kernel_rfl) (by kernel_rfl) (by kernel_rfl) (fun _ _ _ h => h) (by rfl) ?_ (fun _ => HBw.out) ?_
        rotate_left
        · intro V'; go_simp <;> with_reducible rfl
        simp only [Act.put, List.setIfInBounds_toArray, List.set_cons_zero, List.set_cons_succ]
        refine skipF (i := 12) rfl (fun _ => rfl) rfl (by kernel_rfl) (by kernel_rfl) (by kernel_rfl) (by kernel_rfl) (fun _ _ _ h => h) (by rfl) (fun _ => HBw.out) ?_
        simp only [Act.put, List.setIfInBounds_toArray, List.set_cons_zero, List.set_cons_succ]
        refine skipF (i := 13) rfl (fun _ => rfl) rfl (by kernel_rfl) (by kernel_rfl) (by kernel_rfl) (by kernel_rfl) (fun _ _ _ h => h) (by rfl) (fun _ => HBw.out) ?_
        simp only [Act.put, List.setIfInBounds_toArray, List.set_cons_zero, List.set_cons_succ]
        refine skipF (i := 14) rfl (fun _ => rfl) rfl (by kernel_rfl) (by kernel_rfl) (by kernel_rfl) (by kernel_rfl) (fun _ _ _ h => h) (by rfl) (fun _ => HBw.out) ?_
        simp only [Act.put, List.setIfInBounds_toArray, List.set_cons_zero, List.set_cons_succ]
        refine skipF (i := 15) rfl (fun _ => rfl) rfl (by kernel_rfl) (by kernel_rfl) (by kernel_rfl) (by kernel_rfl) (fun _ _ _ h => h) (by rfl) (fun _ => HBw.out) ?_
        simp only [Act.put, List.setIfInBounds_toArray, List.set_cons_zero, List.set_cons_succ]
        refine skipF (i := 16) rfl (fun _ => rfl) rfl (by kernel_rfl) (by kernel_rfl) (by kernel_rfl) (by kernel_rfl) (fun _ _ _ h => h) (by rfl) (fun _ => HBw.out) ?_
        simp only [Act.put, List.setIfInBounds_toArray, List.set_cons_zero, List.set_cons_succ]
        refine skipF (i := 17) rfl (fun _ => rfl) rfl (by kernel_rfl) (by kernel_rfl) (by kernel_rfl) (by kernel_rfl) (fun _ _ _ h => h) (by rfl) (fun _ => HBw.out) ?_
        simp only [Act.put, List.setIfInBounds_toArray, List.set_cons_zero, List.set_cons_succ]
        refine skipF (i := 18) rfl (fun _ => rfl) rfl (by kernel_rfl) (by kernel_rfl) (by kernel_rfl) (by kernel_rfl) (fun _ _ _ h => h) (by rfl) (fun _ => HBw.out) ?_
        simp only [Act.put, List.setIfInBounds_toArray, List.set_cons_zero, List.set_cons_succ]
        refine takeQ (i := 19) (v := ?_) rfl (fun _ => rfl) rfl (by kernel_rfl) (by kernel_rfl) (by kernel_rfl) (by kernel_rfl) (fun _ _ _ h => h) (by rfl) ?_ (fun _ => HBw.out) ?_
        rotate_left
        · intro V'; go_simp <;> with_reducible rfl
        simp only [Act.put, List.setIfInBounds_toArray, List.set_cons_zero, List.set_cons_succ]
        refine takeQ (i := 20) (v := ?_) rfl (fun _ => rfl) rfl (by kernel_rfl) (by kernel_rfl) (by kernel_rfl) (by kernel_rfl) (fun _ _ _ h => h) (by rfl) ?_ (fun _ => HBw.out) ?_
        rotate_left
        · intro V'; go_simp <;> with_reducible rfl
        simp only [Act.put, List.setIfInBounds_toArray, List.set_cons_zero, List.set_cons_succ]
        refine doneF (by kernel_rfl) ?_ _
        have HKw := Lib.hid (KpD.of_below HBw.out HN'.out HLl'.out)
        gi_wp2_with fail
        refine wpIn_goto ?_
        have el : ((pre.length : Int) + 1) = ((pre ++ [x]).length : Int) := by simp
        rw [el]
        refine ⟨rfl, ⟨pre ++ [x], rest, _, _, _, _, _, _, _, _, _, _, _, _, _, _, _, _, _, _, _, _, _, _, _, rfl, by rw [Hx.out]; simp, HB1.out.under HBw.out, HB2.out.under HBw.out, Hr'.out.below HKw.out.1, HK'.out.trans HKw.out, by rw [filter_snoc, HQx.out]; simpa using HJ1.out⟩, ?_⟩
        have := Hl.out
        simp at this
        simp [intOf]; omega
      | true =>
        have HQx := Lib.hid hqx
        clear hqx
        gi_wp2_with fail
        refine wpIn_region_F (ls := [17]) (T := (fun V' : World => Below w'.heap.size w' V')) (by kernel_rfl) ?_
        refine takeQ (i := 0) (v := ?_) rfl (fun _ => rfl) rfl (by kernel_rfl) (by kernel_rfl) (by kernel_rfl) (by kernel_rfl) (fun _ _ _ h => h) (by rfl) ?_ (fun _ => HT.out) ?_
        rotate_left
        · intro V'; go_simp <;> with_reducible rfl
        simp only [Act.put, List.setIfInBounds_toArray, List.set_cons_zero, List.set_cons_succ]
        refine takeF (i := 1) (v := ?_) rfl (fun _ => rfl) rfl (by kernel_rfl) (by kernel_rfl) (by kernel_rfl) (by kernel_rfl) (fun _ _ _ h => h) (by rfl) ?_ HT.out ?_
        rotate_left
        · intro V' hV; obtain ⟨d1, d2, dx⟩ := HL.out V' hV; go_simp <;> with_reducible rfl
        simp only [Act.put, List.setIfInBounds_toArray, List.set_cons_zero, List.set_cons_succ]
        refine takeF (i := 2) (v := ?_) rfl (fun _ => rfl) rfl (by kernel_rfl) (by kernel_rfl) (by kernel_rfl) (by kernel_rfl) (fun _ _ _ h => h) (by rfl) ?_ HT.out ?_
        rotate_left
        · intro V' hV; obtain ⟨d1, d2, dx⟩ := HL.out V' hV; go_simp <;> with_reducible rfl
        simp only [Act.put, List.setIfInBounds_toArray, List.set_cons_zero, List.set_cons_succ]
        refine takeQ (i := 3) (v := .bool false) rfl (fun _ => rfl) rfl (by kernel_rfl) (by kernel_rfl) (by kernel_rfl) (by kernel_rfl) (fun _ _ _ h => h) (by rfl) ?_ (fun _ => HT.out) ?_
        · intro V'; go_simp <;> (try (first | exact hne | rfl))
        simp only [Act.put, List.setIfInBounds_toArray, List.set_cons_zero, List.set_cons_succ]
        refine takeQ (i := 4) (v := ?_) rfl (fun _ => rfl) rfl (by kernel_rfl) (by kernel_rfl) (by kernel_rfl) (by kernel_rfl) (fun _ _ _ h => h) (by rfl) ?_ (fun _ => HT.out) ?_
        rotate_left
        · intro V'; go_simp <;> with_reducible rfl
        simp only [Act.put, List.setIfInBounds_toArray, List.set_cons_zero, List.set_cons_succ]
        refine takeF (i := 5) (v := ?_) rfl (fun _ => rfl) rfl (by kernel_rfl) (by kernel_rfl) (by kernel_rfl) (by kernel_rfl) (fun _ _ _ h => h) (by rfl) ?_ HT.out ?_
        rotate_left
        · intro V' hV; obtain ⟨d1, d2, dx⟩ := HL.out V' hV; go_simp <;> with_reducible rfl
        simp only [Act.put, List.setIfInBounds_toArray, List.set_cons_zero, List.set_cons_succ]
        refine takeF (i := 6) (v := ?_) rfl (fun _ => rfl) rfl (by kernel_rfl) (by kernel_rfl) (by kernel_rfl) (by kernel_rfl) (fun _ _ _ h => h) (by rfl) ?_ HT.out ?_
        rotate_left
        · intro V' hV; obtain ⟨d1, d2, dx⟩ := HL.out V' hV; go_simp <;> with_reducible rfl
        simp only [Act.put, List.setIfInBounds_toArray, List.set_cons_zero, List.set_cons_succ]
        refine takeQ (i := 7) (v := ?_) rfl (fun _ => rfl) rfl (by kernel_rfl) (by kernel_rfl) (by kernel_rfl) (by kernel_rfl) (fun _ _ _ h => h) (by rfl) ?_ (fun _ => HT.out) ?_
        rotate_left
        · intro V'; go_simp <;> with_reducible rfl
        simp only [Act.put, List.setIfInBounds_toArray, List.set_cons_zero, List.set_cons_succ]
        refine takeF (i := 8) (v := ?_) rfl (fun _ => rfl) rfl (by kernel_rfl) (by kernel_rfl) (by kernel_rfl) (by kernel_rfl) (fun _ _ _ h => h) (by rfl) ?_ HT.out ?_
        rotate_left
        · intro V' hV; obtain ⟨d1, d2, dx⟩ := HL.out V' hV; go_simp <;> with_reducible rfl
        simp only [Act.put, List.setIfInBounds_toArray, List.set_cons_zero, List.set_cons_succ]
        refine takeF (i := 9) (v := ?_) rfl (fun _ => rfl) rfl (by kernel_rfl) (by kernel_rfl) (by kernel_rfl) (by kernel_rfl) (fun _ _ _ h => h) (by rfl) ?_ HT.out ?_
        rotate_left
        · intro V' hV; obtain ⟨d1, d2, dx⟩ := HL.out V' hV; obtain ⟨c0, c1, c2, c3, c4, c5, c6, c7⟩ := dx; go_simp <;> with_reducible rfl
        simp only [Act.put, List.setIfInBounds_toArray, List.set_cons_zero, List.set_cons_succ]
        refine oneF (i := 10) rfl (by kernel_rfl) (by rfl) (fun K hK => ?_)
        go_simp
        refine ⟨trivial, fun h => (by cases h), (callsIn_wide.2 (HQ.out x _ (HK'.out.trans (KpD.of_below (below_dr (Below.refl _ w') 1) HN'.out HLl'.out)))).mono ?_⟩
        rintro e w1 ⟨rfl, bw⟩
        rw [HQx.out]
        have HBw := Lib.hid (show Below w'.heap.size w' w1 from (below_dr (Below.refl _ w') 1).trans bw)
        have hJ1 : J (pre.filter q) w1 := HJ.out _ w' w1 none HJp.out ⟨HBw.out.os, HBw.out.tape, HBw.out.output, HBw.out.size, fun i hi _ => HBw.out.block i hi⟩ (fun r e => by cases e)
        have HJ1 := Lib.hid hJ1
        refine hK.out _ _ (fun _ => HBw.out) ?_
        clear hK K bw hJ1
        refine takeQ (i := 11) (v := ?_) rfl (fun _ => rfl) rfl (by kernel_rfl) (by kernel_rfl) (by kernel_rfl) (by kernel_rfl) (fun _ _ _ h => h) (by rfl) ?_ (fun _ => HBw.out) ?_
        rotate_left
        · intro V'; go_simp <;> with_reducible rfl
        simp only [Act.put, List.setIfInBounds_toArray, List.set_cons_zero, List.set_cons_succ]
        refine takeQ (i := 12) (v := ?_) rfl (fun _ => rfl) rfl (by kernel_rfl) (by kernel_rfl) (by kernel_rfl) (by kernel_rfl) (fun _ _ _ h => h) (by rfl) ?_ (fun _ => HBw.out) ?_
        rotate_left
        · intro V'; go_simp <;> with_reducible rfl
        simp only [Act.put, List.setIfInBounds_toArray, List.set_cons_zero, List.set_cons_succ]
        refine takeF (i := 13) (v := ?_) rfl (fun _ => rfl) rfl (by kernel_rfl) (by kernel_rfl) (by kernel_rfl) (by kernel_rfl) (fun _ _ _ h => h) (by rfl) ?_ HBw.out ?_
        rotate_left
        · intro V' hV; obtain ⟨d1, d2, dx⟩ := HL.out V' hV; go_simp <;> with_reducible rfl
        simp only [Act.put, List.setIfInBounds_toArray, List.set_cons_zero, List.set_cons_succ]
        refine takeQ (i := 14) (v := ?_) rfl (fun _ => rfl) rfl (by kernel_rfl) (by kernel_rfl) (by kernel_rfl) (by kernel_rfl) (fun _ _ _ h => h) (by rfl) ?_ (fun _ => HBw.out) ?_
        rotate_left
        · intro V'; go_simp <;> with_reducible rfl
        simp only [Act.put, List.setIfInBounds_toArray, List.set_cons_zero, List.set_cons_succ]
        refine takeF (i := 15) (v := ?_) rfl (fun _ => rfl) rfl (by kernel_rfl) (by kernel_rfl) (by kernel_rfl) (by kernel_rfl) (fun _ _ _ h => h) (by rfl) ?_ HBw.out ?_
        rotate_left
        · intro V' hV; obtain ⟨d1, d2, dx⟩ := HL.out V' hV; go_simp <;> with_reducible rfl
        simp only [Act.put, List.setIfInBounds_toArray, List.set_cons_zero, List.set_cons_succ]
        refine takeF (i := 16) (v := ?_) rfl (fun _ => rfl) rfl (by kernel_rfl) (by kernel_rfl) (by kernel_rfl) (by kernel_rfl) (fun _ _ _ h => h) (by rfl) ?_ HBw.out ?_
        rotate_left
        · intro V' hV; obtain ⟨d1, d2, dx⟩ := HL.out V' hV; obtain ⟨c0, c1, c2, c3, c4, c5, c6, c7⟩ := dx; go_simp <;> with_reducible rfl
        simp only [Act.put, List.setIfInBounds_toArray, List.set_cons_zero, List.set_cons_succ]
        obtain ⟨fn, tmps, assign, body, hy, hR⟩ := HY.out (pre.filter q) x w1 HJ1.out (filter_next_pre Hx.out HQx.out)
        have HR := Lib.hid hR
        clear hR
        refine oneM (i := 17) (by kernel_rfl) rfl (by kernel_rfl) (by rfl) (fun K hK => ?_)
        go_simp
        refine ⟨fun h => (by cases h), HR.out.mono ?_⟩
        rintro e W3 (⟨rfl, hJ3, hk3⟩ | ⟨rfl, hJx3⟩)
        · have HJ3 := Lib.hid hJ3
          have HKw := Lib.hid ((KpD.of_below HBw.out HN'.out HLl'.out).trans hk3)
          clear hJ3 hk3
          refine hK.out _ _ ?_
          clear hK K
          refine takeQ (i := 18) (v := ?_) rfl (fun _ => rfl) rfl (by kernel_rfl) (by kernel_rfl) (by kernel_rfl) (by kernel_rfl) (fun _ _ _ h => h) (by rfl) ?_ (fun h => absurd h (by decide)) ?_
          rotate_left
          · intro V'; go_simp <;> with_reducible rfl
          simp only [Act.put, List.setIfInBounds_toArray, List.set_cons_zero, List.set_cons_succ]
          refine takeQ (i := 19) (v := ?_) rfl (fun _ => rfl) rfl (by kernel_rfl) (by kernel_rfl) (by kernel_rfl) (by kernel_rfl) (fun _ _ _ h => h) (by rfl) ?_ (fun h => absurd h (by decide)) ?_
          rotate_left
          · intro V'; go_simp <;> with_reducible rfl
          simp only [Act.put, List.setIfInBounds_toArray, List.set_cons_zero, List.set_cons_succ]
          refine takeQ (i := 20) (v := ?_) rfl (fun _ => rfl) rfl (by kernel_rfl) (by kernel_rfl) (by kernel_rfl) (by kernel_rfl) (fun _ _ _ h => h) (by rfl) ?_ (fun h => absurd h (by decide)) ?_
          rotate_left
          · intro V'; go_simp <;> with_reducible rfl
          simp only [Act.put, List.setIfInBounds_toArray, List.set_cons_zero, List.set_cons_succ]
          refine doneF (by kernel_rfl) ?_ _
          gi_wp2_with fail
          refine wpIn_goto ?_
          have el : ((pre.length : Int) + 1) = ((pre ++ [x]).length : Int) := by simp
          rw [el]
          refine ⟨rfl, ⟨pre ++ [x], rest, _, _, _, _, _, _, _, _, _, _, _, _, _, _, _, _, _, _, _, _, _, _, _, rfl, by rw [Hx.out]; simp, HB1.out.kpd HKw.out H1.out, HB2.out.kpd HKw.out H2.out, Hr'.out.below HKw.out.1, HK'.out.trans HKw.out, by rw [filter_snoc, HQx.out]; exact HJ3.out⟩, ?_⟩
          have := Hl.out
          simp at this
          simp [intOf]; omega
        · have HJx := Lib.hid hJx3
          clear hJx3
          refine hK.out _ _ ?_
          clear hK K
          refine takeQ (i := 18) (v := ?_) rfl (fun _ => rfl) rfl (by kernel_rfl) (by kernel_rfl) (by kernel_rfl) (by kernel_rfl) (fun _ _ _ h => h) (by rfl) ?_ (fun h => absurd h (by decide)) ?_
          rotate_left
          · intro V'; go_simp <;> with_reducible rfl
          simp only [Act.put, List.setIfInBounds_toArray, List.set_cons_zero, List.set_cons_succ]
          refine takeQ (i := 19) (v := ?_) rfl (fun _ => rfl) rfl (by kernel_rfl) (by kernel_rfl) (by kernel_rfl) (by kernel_rfl) (fun _ _ _ h => h) (by rfl) ?_ (fun h => absurd h (by decide)) ?_
          rotate_left
          · intro V'; go_simp <;> with_reducible rfl
          simp only [Act.put, List.setIfInBounds_toArray, List.set_cons_zero, List.set_cons_succ]
          refine takeQ (i := 20) (v := ?_) rfl (fun _ => rfl) rfl (by kernel_rfl) (by kernel_rfl) (by kernel_rfl) (by kernel_rfl) (fun _ _ _ h => h) (by rfl) ?_ (fun h => absurd h (by decide)) ?_
          rotate_left
          · intro V'; go_simp <;> with_reducible rfl
          simp only [Act.put, List.setIfInBounds_toArray, List.set_cons_zero, List.set_cons_succ]
          refine doneF (by kernel_rfl) ?_ _
          gi_wp2_with fail
          simp only [Exit.jump]
          refine bodyPost_ret (results_none rfl _ _ _) rfl ?_
          exact ⟨⟨_, rfl⟩, .inr HJx.out⟩

/-- The iterator hands over those of the row of which the closure says yes, in order. -/
theorem kpIn_mem (m b1 b2 n₀ : Nat) (L : List Nat) (F : FuncId) (lb : Array Value) (q : Kp → Bool) (A : Option Addr) (n c : Nat) (xs : List Kp) (hn : n ≤ 1000000) (hm : 1 ≤ m) (h1 : b1 ∈ L) (h2 : b2 ∈ L)
    (eg : ∀ args w, (callFunc F args).run Tryd.prog w = .ok (.enter F args) w) (w : World)
    (hq : ∀ (x : Kp) (W : World), KpD n₀ L w W → Calls Tryd.prog F (#[x.v] ++ lb) W (BoolPost (q x) W))
    (hB1 : Whole w b1 26 #[.slice A n c]) (hB2 : Whole w b2 56 #[.func (.func F) #[] lb]) (hr : RdK w n₀ A n xs) (hN : n₀ ≤ w.heap.size) (hL : ∀ b ∈ L, b < w.heap.size) :
    SeqMem m Tryd.prog 60 #[.pointer (some ⟨b1, 0, none⟩), .pointer (some ⟨b2, 0, none⟩)] encKp (OkIn (xs.filter q)) (KpD n₀ L) (fun ys => ys = xs.filter q) w := fun l J Jx W hW hJ hY h0 =>
  have hk : KpD n₀ L w W := KpD.of_below hW hN hL
  kpIn1_in m l b1 b2 n₀ L F lb q A n c xs hn hm h1 h2 eg J Jx W (fun x V hV => hq x V (hk.trans hV)) (fun pre x V hV hp => hY pre x V hV hp) hJ (hB1.under hW) (hB2.under hW) (hr.below (hW.mono hN)) (Nat.le_trans hN hW.size) (fun b hb => Nat.lt_of_lt_of_le (hL b hb) hW.size) h0

end Go.Proofs.YtplejbgecihnpaaDoor
