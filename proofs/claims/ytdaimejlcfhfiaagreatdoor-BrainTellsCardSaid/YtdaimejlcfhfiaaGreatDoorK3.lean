/-
  Texts that the walk of a statement over brains leans on, joined (BrIter, BrPlace, BrBool). Conditions: those that each theorem names.
-/
import Derived.Test.YtdaimejlcfhfiaaGreatDoorKQ
import Derived.Test.YtdaimejlcfhfiaaGreatDoorK1
import Derived.Test.YtdaimejlcfhfiaaGreatDoorK2
set_option maxRecDepth 100000

namespace Go.Proofs.YtdaimejlcfhfiaaGreatDoor
open Go.RowKit Go.Shelf
attribute [local go_sem] Oper.semAt_some

theorem prefix_snoc {α : Type} {l pre rest : List α} {x : α} (h : l = pre ++ x :: rest) : pre ++ [x] <+: l := ⟨rest, by rw [h]; simp⟩

theorem below_dr {B : Nat} {w w' : World} (h : Below B w w') (k : Nat) : Below B w (w'.drewN k) := ⟨h.os, h.tape, h.output, h.size, h.block⟩
theorem ItAt_below {w w' : World} {N b o : Nat} {x : It} (h : ItAt w b o x) (hb : Below N w w') (hlt : b < N) : ItAt w' b o x :=
  ⟨(hb.cell (p := ⟨b, o, none⟩) hlt).trans h.c0, (hb.cell (p := ⟨b, o + 1, none⟩) hlt).trans h.c1, (hb.cell (p := ⟨b, o + 2, none⟩) hlt).trans h.c2, (hb.cell (p := ⟨b, o + 3, none⟩) hlt).trans h.c3⟩
theorem KpAt_below {w w' : World} {N b o : Nat} {x : Kp} (h : KpAt w b o x) (hb : Below N w w') (hlt : b < N) : KpAt w' b o x :=
  ⟨(hb.cell (p := ⟨b, o, none⟩) hlt).trans h.c0, (hb.cell (p := ⟨b, o + 1, none⟩) hlt).trans h.c1, (hb.cell (p := ⟨b, o + 2, none⟩) hlt).trans h.c2, (hb.cell (p := ⟨b, o + 3, none⟩) hlt).trans h.c3, (hb.cell (p := ⟨b, o + 4, none⟩) hlt).trans h.c4, (hb.cell (p := ⟨b, o + 5, none⟩) hlt).trans h.c5, (hb.cell (p := ⟨b, o + 6, none⟩) hlt).trans h.c6, (hb.cell (p := ⟨b, o + 7, none⟩) hlt).trans h.c7⟩

set_option maxHeartbeats 400000 in
theorem itNum_any (x : It) (w : World) : Calls Tryz.prog 65 #[.agg #[.int .i64 x.tok, .int .i64 x.ver, .int .i64 x.zone, .bool x.warm]] w (IntPost x.tok w) := by
  go_enter Tryz.func65, Tryz.ntmps65
  go_wp2_with fail
  go_ret
  exact ⟨rfl, (Below.refl _ w).alloc (Nat.le_refl _) _⟩

/-- The iterator that is handed back, and its two boxes. -/
def itPost (A : Option Addr) (n c : Nat) (w : World) (e : Ending) (w' : World) : Prop :=
  ∃ b1 b2, e = .returned (.func (.func 114) #[] #[.pointer (some ⟨b1, 0, none⟩), .pointer (some ⟨b2, 0, none⟩)]) ∧ b1 < w'.heap.size ∧ b2 < w'.heap.size ∧ w'.cell? ⟨b1, 0, none⟩ = some (.slice A n c) ∧ w'.cell? ⟨b2, 0, none⟩ = some (.func (.func 65) #[] #[]) ∧ Below w.heap.size w w'
set_option maxHeartbeats 400000 in
theorem itEach_any (A : Option Addr) (n c : Nat) (w : World) :
    Calls Tryz.prog 64 #[.slice A n c, .func (.func 65) #[] #[]] w (itPost A n c w) := by
  obtain ⟨hb, w0, w1⟩ := two_new w 25 98 #[.slice A n c] #[.func (.func 65) #[] #[]]
  have h0 := hb
  go_enter Tryz.func64, Tryz.ntmps64
  go_wp2_with fail
  go_ret
  exact ⟨w.heap.size, w.heap.size + 1, rfl, by simp; omega, by simp, w0.cell 0, w1.cell 0, h0⟩
set_option maxHeartbeats 1000000 in
theorem tokens_any (p : Br) (a : Ad) (w : World) : Calls Tryz.prog 41 #[brV p a] w (itPost a.A p.its.length a.c w) := by
  obtain ⟨V, hV⟩ : ∃ V, w.alloc (.cells (brC p a) 30) = V := ⟨_, rfl⟩
  have hw : Whole V w.heap.size 30 (brC p a) := by rw [← hV]; exact Whole.new _ _ _
  have hb : Below w.heap.size w V := by rw [← hV]; exact (Below.refl _ _).alloc (Nat.le_refl _) _
  have c18 := hw.cell 18
  simp only [List.getElem?_toArray, List.getElem?_cons_zero, List.getElem?_cons_succ] at c18
  have HB := Lib.hid hb
  clear hb hw
  go_enter Tryz.func41, Tryz.ntmps41
  go_wp2_with fail
  refine (itEach_any a.A p.its.length a.c _).mono ?_
  rintro e w1 ⟨b1, b2, rfl, h1, h2, h3, h4, hb1⟩
  have HB1 := Lib.hid (HB.out.trans (hb1.mono HB.out.size))
  clear hb1
  go_wp2_with fail
  go_ret
  exact ⟨b1, b2, rfl, h1, h2, h3, h4, HB1.out⟩

/-- Where the iterator stands. -/
def itAt (l b1 b2 N : Nat) (A : Option Addr) (n c : Nat) (xs : List It) (J : List Int → World → Prop) (a' : Act) (w' : World) : Prop :=
  ∃ (pre : List It) (rest : List It) (u5 u6 u7 u8 u9 u10 u11 u12 u13 u14 u15 u16 u17 u18 u19 u20 : Value), a' = { tmps := #[.func (.yield l) #[] #[], .pointer (some ⟨b1, 0, none⟩), .pointer (some ⟨b2, 0, none⟩), undef, .int .i64 (pre.length : Int), u5, u6, u7, u8, u9, u10, u11, u12, u13, u14, u15, u16, u17, u18, u19, u20], defers := [] } ∧ xs = pre ++ rest ∧ w'.cell? ⟨b1, 0, none⟩ = some (.slice A n c) ∧ w'.cell? ⟨b2, 0, none⟩ = some (.func (.func 65) #[] #[]) ∧ RdI w' N A n xs ∧ N ≤ w'.heap.size ∧ J (pre.map It.tok) w'

set_option maxHeartbeats 2000000 in
theorem itEach1_in (m l b1 b2 N : Nat) (A : Option Addr) (n c : Nat) (xs : List It) (hn : n ≤ 1000000) (hm : 1 ≤ m) (h1 : b1 < N) (h2 : b2 < N) (J : List Int → World → Prop) (Jx : List Int → World → Prop)
    (hY : ∀ pre x W, J pre W → pre.length < (xs.map It.tok).length → YieldAt Fence.wide (m - 1) Tryz.prog l #[.int .i64 x] W fun e W' =>
      (e = .returned (.bool true) ∧ J (pre ++ [x]) W' ∧ Below N W W') ∨ (e = .returned (.bool false) ∧ Jx (pre ++ [x]) W'))
    (W0 : World) (hJ : AbidesFrom W0.heap.size J) (hB1 : W0.cell? ⟨b1, 0, none⟩ = some (.slice A n c)) (hB2 : W0.cell? ⟨b2, 0, none⟩ = some (.func (.func 65) #[] #[])) (hr : RdI W0 N A n xs) (hN : N ≤ W0.heap.size) (h0 : J [] W0) :
    CallsIn Fence.wide m Tryz.prog 114 #[.func (.yield l) #[] #[], .pointer (some ⟨b1, 0, none⟩), .pointer (some ⟨b2, 0, none⟩)] W0 fun e W' => (∃ v, e = .returned v) ∧
      ((∃ ys, ys = xs.map It.tok ∧ J ys W') ∨ (∃ pre, pre <+: xs.map It.tok ∧ Jx pre W')) := by
  have HY := Lib.hid hY
  have Hr := Lib.hid hr
  have H1 := Lib.hid h1
  have H2 := Lib.hid h2
  have HJ := Lib.hid hJ
  have HN := Lib.hid hN
  have HM := Lib.hid hm
  have H0 := Lib.hid h0
  clear hY hr h1 h2 hJ hN hm h0
  refine callsIn_of_wp Tryz.func114 rfl trivial ?_ rfl
  simp only [Tryz.ntmps114, List.size_toArray, List.length_cons, List.length_nil, Nat.reduceAdd, Nat.reduceSub, Array.replicate_succ, Array.replicate_zero, List.push_toArray, List.append_toArray, List.nil_append, List.cons_append]
  gi_wp2_with fail
  refine wpIn_wide.2 (wp_scope_back_behind 0 (itAt l b1 b2 N A n c xs J)
    (fun a' _ => n - (intOf (a'.tmps.getD 4 undef)).toNat) rfl (wpIn_wide (n := m).1 ?ahead) (fun a' w' hJ' => wpIn_wide (n := m).1 ?pass))
  case ahead =>
    gi_wp2_with fail
    exact ⟨[], xs, _, _, _, _, _, _, _, _, _, _, _, _, _, _, _, _, rfl, rfl, hB1, hB2, Hr.out, HN.out, H0.out⟩
  case pass =>
    obtain ⟨pre, rest, u5, u6, u7, u8, u9, u10, u11, u12, u13, u14, u15, u16, u17, u18, u19, u20, rfl, hx, hB1', hB2', hr', hN', hJp⟩ := hJ'
    clear hB1 hB2
    have Hr' := Lib.hid hr'
    have HN' := Lib.hid hN'
    have Hx := Lib.hid hx
    have HJp := Lib.hid hJp
    have hl : pre.length + rest.length = n := by have := hr'.1; rw [hx, List.length_append] at this; exact this
    clear hr' hx hJp hN'
    cases rest with
    | nil =>
      have hge : decide (pre.length < n) = false := by simp at hl ⊢; omega
      have HE := Lib.hid (show xs.map It.tok = pre.map It.tok by rw [Hx.out, List.append_nil])
      clear hl
      have HT : Hid ((fun V' : World => V'.cell? ⟨b1, 0, none⟩ = some (.slice A n c) ∧ V'.cell? ⟨b2, 0, none⟩ = some (.func (.func 65) #[] #[]) ∧ True) w'.drew) := Lib.hid ⟨hB1', hB2', trivial⟩
      have HL : Hid (∀ V' : World, V'.cell? ⟨b1, 0, none⟩ = some (.slice A n c) ∧ V'.cell? ⟨b2, 0, none⟩ = some (.func (.func 65) #[] #[]) ∧ True → V'.cell? ⟨b1, 0, none⟩ = some (.slice A n c) ∧ V'.cell? ⟨b2, 0, none⟩ = some (.func (.func 65) #[] #[]) ∧ True) := Lib.hid (fun V' h => h)
      gi_wp2_with fail
      refine wpIn_region_F (ls := []) (T := (fun V' : World => V'.cell? ⟨b1, 0, none⟩ = some (.slice A n c) ∧ V'.cell? ⟨b2, 0, none⟩ = some (.func (.func 65) #[] #[]) ∧ True)) (by kernel_rfl) ?_
      refine takeQ (i := 0) (v := ?_) rfl (fun _ => rfl) rfl (by kernel_rfl) (by kernel_rfl) (by kernel_rfl) (by kernel_rfl) (fun _ _ _ h => h) (by rfl) ?_ (fun _ => HT.out) ?_
      rotate_left
      · intro V'; go_simp <;> with_reducible rfl
      simp only [Act.put, lA, lZ, lS]
      refine takeF (i := 1) (v := ?_) rfl (fun _ => rfl) rfl (by kernel_rfl) (by kernel_rfl) (by kernel_rfl) (by kernel_rfl) (fun _ _ _ h => h) (by rfl) ?_ HT.out ?_
      rotate_left
      · intro V' hV; obtain ⟨d1, d2, dx⟩ := HL.out V' hV; go_simp <;> with_reducible rfl
      simp only [Act.put, lA, lZ, lS]
      refine takeF (i := 2) (v := ?_) rfl (fun _ => rfl) rfl (by kernel_rfl) (by kernel_rfl) (by kernel_rfl) (by kernel_rfl) (fun _ _ _ h => h) (by rfl) ?_ HT.out ?_
      rotate_left
      · intro V' hV; obtain ⟨d1, d2, dx⟩ := HL.out V' hV; go_simp <;> with_reducible rfl
      simp only [Act.put, lA, lZ, lS]
      refine takeQ (i := 3) (v := ?_) rfl (fun _ => rfl) rfl (by kernel_rfl) (by kernel_rfl) (by kernel_rfl) (by kernel_rfl) (fun _ _ _ h => h) (by rfl) ?_ (fun _ => HT.out) ?_
      rotate_left
      · intro V'; go_simp <;> with_reducible rfl
      simp only [Act.put, lA, lZ, lS]
      refine takeQ (i := 4) (v := ?_) rfl (fun _ => rfl) rfl (by kernel_rfl) (by kernel_rfl) (by kernel_rfl) (by kernel_rfl) (fun _ _ _ h => h) (by rfl) ?_ (fun _ => HT.out) ?_
      rotate_left
      · intro V'; go_simp <;> with_reducible rfl
      simp only [Act.put, lA, lZ, lS]
      refine skipF (i := 5) rfl (fun _ => rfl) rfl (by kernel_rfl) (by kernel_rfl) (by kernel_rfl) (by kernel_rfl) (fun _ _ _ h => h) (by rfl) (fun _ => HT.out) ?_
      simp only [Act.put, lA, lZ, lS]
      refine skipF (i := 6) rfl (fun _ => rfl) rfl (by kernel_rfl) (by kernel_rfl) (by kernel_rfl) (by kernel_rfl) (fun _ _ _ h => h) (by rfl) (fun _ => HT.out) ?_
      simp only [Act.put, lA, lZ, lS]
      refine skipF (i := 7) rfl (fun _ => rfl) rfl (by kernel_rfl) (by kernel_rfl) (by kernel_rfl) (by kernel_rfl) (fun _ _ _ h => h) (by rfl) (fun _ => HT.out) ?_
      simp only [Act.put, lA, lZ, lS]
      refine skipF (i := 8) rfl (fun _ => rfl) rfl (by kernel_rfl) (by kernel_rfl) (by kernel_rfl) (by kernel_rfl) (fun _ _ _ h => h) (by rfl) (fun _ => HT.out) ?_
      simp only [Act.put, lA, lZ, lS]
      refine skipF (i := 9) rfl (fun _ => rfl) rfl (by kernel_rfl) (by kernel_rfl) (by kernel_rfl) (by kernel_rfl) (fun _ _ _ h => h) (by rfl) (fun _ => HT.out) ?_
      simp only [Act.put, lA, lZ, lS]
      refine skipF (i := 10) rfl (fun _ => rfl) rfl (by kernel_rfl) (by kernel_rfl) (by kernel_rfl) (by kernel_rfl) (fun _ _ _ h => h) (by rfl) (fun _ => HT.out) ?_
      simp only [Act.put, lA, lZ, lS]
      refine skipF (i := 11) rfl (fun _ => rfl) rfl (by kernel_rfl) (by kernel_rfl) (by kernel_rfl) (by kernel_rfl) (fun _ _ _ h => h) (by rfl) (fun _ => HT.out) ?_
      simp only [Act.put, lA, lZ, lS]
      refine skipF (i := 12) rfl (fun _ => rfl) rfl (by kernel_rfl) (by kernel_rfl) (by kernel_rfl) (by kernel_rfl) (fun _ _ _ h => h) (by rfl) (fun _ => HT.out) ?_
      simp only [Act.put, lA, lZ, lS]
      refine takeQ (i := 13) (v := ?_) rfl (fun _ => rfl) rfl (by kernel_rfl) (by kernel_rfl) (by kernel_rfl) (by kernel_rfl) (fun _ _ _ h => h) (by rfl) ?_ (fun _ => HT.out) ?_
      rotate_left
      · intro V'; go_simp <;> with_reducible rfl
      simp only [Act.put, lA, lZ, lS]
      refine doneF (by kernel_rfl) ?_ _
      gi_wp2_with fail
      simp only [Exit.jump]
      go_end0
      exact ⟨⟨_, rfl⟩, .inl ⟨_, HE.out.symm, HJ.out _ _ _ none HJp.out ⟨rfl, rfl, rfl, Nat.le_refl _, fun _ _ _ => rfl⟩ (fun r e => by cases e)⟩⟩
    | cons x rest =>
      have hltn : pre.length < n := by simp at hl; omega
      have hlt : (pre.length : Int) < (n : Int) := by omega
      have hx : xs[pre.length]? = some x := by rw [Hx.out]; simp
      obtain ⟨b, off, rfl, hb, hc⟩ := RdI.at_ Hr'.out (by omega)
      have HC := Lib.hid (hc _ _ hx)
      have hbs : b < N := hb
      have Hb := Lib.hid hbs
      have Hl := Lib.hid hl
      clear hc hx hl hb hbs
      have HT : Hid ((fun V' : World => Below N w' V') w'.drew) := Lib.hid (below_dr (Below.refl N w') 1)
      have HL : Hid (∀ V' : World, Below N w' V' → V'.cell? ⟨b1, 0, none⟩ = some (.slice (some ⟨b, off, none⟩) n c) ∧ V'.cell? ⟨b2, 0, none⟩ = some (.func (.func 65) #[] #[]) ∧ ItAt V' b (off + pre.length * 4) x) :=
        Lib.hid (fun V' h => ⟨(h.cell (p := ⟨b1, 0, none⟩) H1.out).trans hB1', (h.cell (p := ⟨b2, 0, none⟩) H2.out).trans hB2', ItAt_below HC.out h Hb.out⟩)
      gi_wp2_with fail
      refine wpIn_region_F (ls := [12]) (T := (fun V' : World => Below N w' V')) (by kernel_rfl) ?_
      refine takeQ (i := 0) (v := ?_) rfl (fun _ => rfl) rfl (by kernel_rfl) (by kernel_rfl) (by kernel_rfl) (by kernel_rfl) (fun _ _ _ h => h) (by rfl) ?_ (fun _ => HT.out) ?_
      rotate_left
      · intro V'; go_simp <;> with_reducible rfl
      simp only [Act.put, lA, lZ, lS]
      refine takeF (i := 1) (v := ?_) rfl (fun _ => rfl) rfl (by kernel_rfl) (by kernel_rfl) (by kernel_rfl) (by kernel_rfl) (fun _ _ _ h => h) (by rfl) ?_ HT.out ?_
      rotate_left
      · intro V' hV; obtain ⟨d1, d2, dx⟩ := HL.out V' hV; go_simp <;> with_reducible rfl
      simp only [Act.put, lA, lZ, lS]
      refine takeF (i := 2) (v := ?_) rfl (fun _ => rfl) rfl (by kernel_rfl) (by kernel_rfl) (by kernel_rfl) (by kernel_rfl) (fun _ _ _ h => h) (by rfl) ?_ HT.out ?_
      rotate_left
      · intro V' hV; obtain ⟨d1, d2, dx⟩ := HL.out V' hV; go_simp <;> with_reducible rfl
      simp only [Act.put, lA, lZ, lS]
      refine takeQ (i := 3) (v := ?_) rfl (fun _ => rfl) rfl (by kernel_rfl) (by kernel_rfl) (by kernel_rfl) (by kernel_rfl) (fun _ _ _ h => h) (by rfl) ?_ (fun _ => HT.out) ?_
      rotate_left
      · intro V'; go_simp <;> with_reducible rfl
      simp only [Act.put, lA, lZ, lS]
      refine takeQ (i := 4) (v := ?_) rfl (fun _ => rfl) rfl (by kernel_rfl) (by kernel_rfl) (by kernel_rfl) (by kernel_rfl) (fun _ _ _ h => h) (by rfl) ?_ (fun _ => HT.out) ?_
      rotate_left
      · intro V'; go_simp <;> with_reducible rfl
      simp only [Act.put, lA, lZ, lS]
      refine takeQ (i := 5) (v := ?_) rfl (fun _ => rfl) rfl (by kernel_rfl) (by kernel_rfl) (by kernel_rfl) (by kernel_rfl) (fun _ _ _ h => h) (by rfl) ?_ (fun _ => HT.out) ?_
      rotate_left
      · intro V'; go_simp <;> with_reducible rfl
      simp only [Act.put, lA, lZ, lS]
      refine takeF (i := 6) (v := ?_) rfl (fun _ => rfl) rfl (by kernel_rfl) (by kernel_rfl) (by kernel_rfl) (by kernel_rfl) (fun _ _ _ h => h) (by rfl) ?_ HT.out ?_
      rotate_left
      · intro V' hV; obtain ⟨d1, d2, dx⟩ := HL.out V' hV; go_simp <;> with_reducible rfl
      simp only [Act.put, lA, lZ, lS]
      refine takeF (i := 7) (v := ?_) rfl (fun _ => rfl) rfl (by kernel_rfl) (by kernel_rfl) (by kernel_rfl) (by kernel_rfl) (fun _ _ _ h => h) (by rfl) ?_ HT.out ?_
      rotate_left
      · intro V' hV; obtain ⟨d1, d2, dx⟩ := HL.out V' hV; go_simp <;> with_reducible rfl
      simp only [Act.put, lA, lZ, lS]
      refine takeQ (i := 8) (v := ?_) rfl (fun _ => rfl) rfl (by kernel_rfl) (by kernel_rfl) (by kernel_rfl) (by kernel_rfl) (fun _ _ _ h => h) (by rfl) ?_ (fun _ => HT.out) ?_
      rotate_left
      · intro V'; go_simp <;> with_reducible rfl
      simp only [Act.put, lA, lZ, lS]
      refine takeF (i := 9) (v := ?_) rfl (fun _ => rfl) rfl (by kernel_rfl) (by kernel_rfl) (by kernel_rfl) (by kernel_rfl) (fun _ _ _ h => h) (by rfl) ?_ HT.out ?_
      rotate_left
      · intro V' hV; obtain ⟨d1, d2, dx⟩ := HL.out V' hV; go_simp <;> with_reducible rfl
      simp only [Act.put, lA, lZ, lS]
      refine takeF (i := 10) (v := ?_) rfl (fun _ => rfl) rfl (by kernel_rfl) (by kernel_rfl) (by kernel_rfl) (by kernel_rfl) (fun _ _ _ h => h) (by rfl) ?_ HT.out ?_
      rotate_left
      · intro V' hV; obtain ⟨d1, d2, dx⟩ := HL.out V' hV; obtain ⟨c0, c1, c2, c3⟩ := dx; go_simp <;> with_reducible rfl
      simp only [Act.put, lA, lZ, lS]
      refine oneF (i := 11) rfl (by kernel_rfl) (by rfl) (fun K hK => ?_)
      go_simp
      refine ⟨trivial, fun h => (by cases h), (callsIn_wide.2 (itNum_any x _)).mono ?_⟩
      rintro e w1 ⟨rfl, bw⟩
      have HB1 := Lib.hid (show Below N w' w1 from (below_dr (Below.refl N w') 1).trans (bw.mono HN'.out))
      have hJ1 : J (pre.map It.tok) w1 := HJ.out _ w' w1 none HJp.out ⟨HB1.out.os, HB1.out.tape, HB1.out.output, HB1.out.size, fun i hi _ => bw.block i hi⟩ (fun r e => by cases e)
      refine hK.out _ _ (fun _ => HB1.out) ?_
      clear hK K bw
      obtain ⟨fn, tmps, assign, body, hy, hR⟩ := HY.out (pre.map It.tok) x.tok w1 hJ1 (by rw [Hx.out]; simp)
      have HR := Lib.hid hR
      clear hR hJ1
      refine oneM (i := 12) (by kernel_rfl) rfl (by kernel_rfl) (by rfl) (fun K hK => ?_)
      go_simp
      refine ⟨fun h => (by cases h), HR.out.mono ?_⟩
      rintro e W3 (⟨rfl, hJ3, hk3⟩ | ⟨rfl, hJx3⟩)
      · have HJ3 := Lib.hid hJ3
        have HK3 := Lib.hid hk3
        clear hJ3 hk3
        refine hK.out _ _ ?_
        clear hK K
        refine takeQ (i := 13) (v := ?_) rfl (fun _ => rfl) rfl (by kernel_rfl) (by kernel_rfl) (by kernel_rfl) (by kernel_rfl) (fun _ _ _ h => h) (by rfl) ?_ (fun h => absurd h (by decide)) ?_
        rotate_left
        · intro V'; go_simp <;> with_reducible rfl
        simp only [Act.put, lA, lZ, lS]
        refine doneF (by kernel_rfl) ?_ _
        have hb3 : W3.cell? ⟨b1, 0, none⟩ = some (.slice (some ⟨b, off, none⟩) n c) := ((HK3.out.cell (p := ⟨b1, 0, none⟩) H1.out).trans (HB1.out.cell (p := ⟨b1, 0, none⟩) H1.out)).trans hB1'
        have hb4 : W3.cell? ⟨b2, 0, none⟩ = some (.func (.func 65) #[] #[]) := ((HK3.out.cell (p := ⟨b2, 0, none⟩) H2.out).trans (HB1.out.cell (p := ⟨b2, 0, none⟩) H2.out)).trans hB2'
        gi_wp2_with fail
        refine wpIn_goto ?_
        have el : ((pre.length : Int) + 1) = ((pre ++ [x]).length : Int) := by simp
        rw [el]
        refine ⟨rfl, ⟨pre ++ [x], rest, _, _, _, _, _, _, _, _, _, _, _, _, _, _, _, _, rfl, by rw [Hx.out]; simp, hb3, hb4, (Hr'.out.below HB1.out).below HK3.out, Nat.le_trans HN'.out (Nat.le_trans HB1.out.size HK3.out.size), by rw [List.map_append]; exact HJ3.out⟩, ?_⟩
        have := Hl.out
        simp at this
        simp [intOf]; omega
      · have HJx := Lib.hid hJx3
        clear hJx3
        refine hK.out _ _ ?_
        clear hK K
        refine takeQ (i := 13) (v := ?_) rfl (fun _ => rfl) rfl (by kernel_rfl) (by kernel_rfl) (by kernel_rfl) (by kernel_rfl) (fun _ _ _ h => h) (by rfl) ?_ (fun h => absurd h (by decide)) ?_
        rotate_left
        · intro V'; go_simp <;> with_reducible rfl
        simp only [Act.put, lA, lZ, lS]
        refine doneF (by kernel_rfl) ?_ _
        gi_wp2_with fail
        simp only [Exit.jump]
        go_end0
        exact ⟨⟨_, rfl⟩, .inr ⟨pre.map It.tok ++ [x.tok], prefix_snoc (by rw [Hx.out, List.map_append, List.map_cons]), HJx.out⟩⟩

/-- The iterator hands over the numbers, in order. -/
theorem itEach_stops (m b1 b2 N : Nat) (A : Option Addr) (n c : Nat) (xs : List It) (hn : n ≤ 1000000) (hm : 1 ≤ m) (h1 : b1 < N) (h2 : b2 < N) (w : World) (hN : N ≤ w.heap.size) (hB1 : w.cell? ⟨b1, 0, none⟩ = some (.slice A n c)) (hB2 : w.cell? ⟨b2, 0, none⟩ = some (.func (.func 65) #[] #[])) (hr : RdI w N A n xs) :
    SeqStopsK Fence.wide m Tryz.prog 114 #[.pointer (some ⟨b1, 0, none⟩), .pointer (some ⟨b2, 0, none⟩)] (fun x : Int => #[Value.int .i64 x]) (fun W W' => Below N W W') (fun ys => ys = xs.map It.tok) (fun pre => pre <+: xs.map It.tok) (xs.map It.tok).length w := fun l J Jx W hW hJ _ hY h0 =>
  itEach1_in m l b1 b2 N A n c xs hn hm h1 h2 J Jx hY W hJ (((hW.mono hN).cell (p := ⟨b1, 0, none⟩) h1).trans hB1) (((hW.mono hN).cell (p := ⟨b2, 0, none⟩) h2).trans hB2) (hr.below (hW.mono hN)) (Nat.le_trans hN hW.size) h0

set_option maxHeartbeats 400000 in
theorem kpNum_any (x : Kp) (w : World) : Calls Tryz.prog 63 #[.agg #[.int .i64 x.id, .int .i64 x.tok, .int .i64 x.ver, .int .i64 x.zone, .int .u8 x.phase, .int .i64 x.since, .bool x.guard, .bool x.done]] w (IntPost x.id w) := by
  go_enter Tryz.func63, Tryz.ntmps63
  go_wp2_with fail
  go_ret
  exact ⟨rfl, (Below.refl _ w).alloc (Nat.le_refl _) _⟩

/-- The iterator that is handed back, and its two boxes. -/
def kpPost (A : Option Addr) (n c : Nat) (w : World) (e : Ending) (w' : World) : Prop :=
  ∃ b1 b2, e = .returned (.func (.func 113) #[] #[.pointer (some ⟨b1, 0, none⟩), .pointer (some ⟨b2, 0, none⟩)]) ∧ b1 < w'.heap.size ∧ b2 < w'.heap.size ∧ w'.cell? ⟨b1, 0, none⟩ = some (.slice A n c) ∧ w'.cell? ⟨b2, 0, none⟩ = some (.func (.func 63) #[] #[]) ∧ Below w.heap.size w w'
set_option maxHeartbeats 400000 in
theorem kpEach_any (A : Option Addr) (n c : Nat) (w : World) :
    Calls Tryz.prog 62 #[.slice A n c, .func (.func 63) #[] #[]] w (kpPost A n c w) := by
  obtain ⟨hb, w0, w1⟩ := two_new w 26 96 #[.slice A n c] #[.func (.func 63) #[] #[]]
  have h0 := hb
  go_enter Tryz.func62, Tryz.ntmps62
  go_wp2_with fail
  go_ret
  exact ⟨w.heap.size, w.heap.size + 1, rfl, by simp; omega, by simp, w0.cell 0, w1.cell 0, h0⟩
set_option maxHeartbeats 1000000 in
theorem ids_any (p : Br) (a : Ad) (w : World) : Calls Tryz.prog 39 #[brV p a] w (kpPost a.B p.kps.length a.d w) := by
  obtain ⟨V, hV⟩ : ∃ V, w.alloc (.cells (brC p a) 30) = V := ⟨_, rfl⟩
  have hw : Whole V w.heap.size 30 (brC p a) := by rw [← hV]; exact Whole.new _ _ _
  have hb : Below w.heap.size w V := by rw [← hV]; exact (Below.refl _ _).alloc (Nat.le_refl _) _
  have c19 := hw.cell 19
  simp only [List.getElem?_toArray, List.getElem?_cons_zero, List.getElem?_cons_succ] at c19
  have HB := Lib.hid hb
  clear hb hw
  go_enter Tryz.func39, Tryz.ntmps39
  go_wp2_with fail
  refine (kpEach_any a.B p.kps.length a.d _).mono ?_
  rintro e w1 ⟨b1, b2, rfl, h1, h2, h3, h4, hb1⟩
  have HB1 := Lib.hid (HB.out.trans (hb1.mono HB.out.size))
  clear hb1
  go_wp2_with fail
  go_ret
  exact ⟨b1, b2, rfl, h1, h2, h3, h4, HB1.out⟩

/-- Where the iterator stands. -/
def kpAt (l b1 b2 N : Nat) (A : Option Addr) (n c : Nat) (xs : List Kp) (J : List Int → World → Prop) (a' : Act) (w' : World) : Prop :=
  ∃ (pre : List Kp) (rest : List Kp) (u5 u6 u7 u8 u9 u10 u11 u12 u13 u14 u15 u16 u17 u18 u19 u20 : Value), a' = { tmps := #[.func (.yield l) #[] #[], .pointer (some ⟨b1, 0, none⟩), .pointer (some ⟨b2, 0, none⟩), undef, .int .i64 (pre.length : Int), u5, u6, u7, u8, u9, u10, u11, u12, u13, u14, u15, u16, u17, u18, u19, u20], defers := [] } ∧ xs = pre ++ rest ∧ w'.cell? ⟨b1, 0, none⟩ = some (.slice A n c) ∧ w'.cell? ⟨b2, 0, none⟩ = some (.func (.func 63) #[] #[]) ∧ RdK w' N A n xs ∧ N ≤ w'.heap.size ∧ J (pre.map Kp.id) w'

set_option maxHeartbeats 2000000 in
theorem kpEach1_in (m l b1 b2 N : Nat) (A : Option Addr) (n c : Nat) (xs : List Kp) (hn : n ≤ 1000000) (hm : 1 ≤ m) (h1 : b1 < N) (h2 : b2 < N) (J : List Int → World → Prop) (Jx : List Int → World → Prop)
    (hY : ∀ pre x W, J pre W → pre.length < (xs.map Kp.id).length → YieldAt Fence.wide (m - 1) Tryz.prog l #[.int .i64 x] W fun e W' =>
      (e = .returned (.bool true) ∧ J (pre ++ [x]) W' ∧ Below N W W') ∨ (e = .returned (.bool false) ∧ Jx (pre ++ [x]) W'))
    (W0 : World) (hJ : AbidesFrom W0.heap.size J) (hB1 : W0.cell? ⟨b1, 0, none⟩ = some (.slice A n c)) (hB2 : W0.cell? ⟨b2, 0, none⟩ = some (.func (.func 63) #[] #[])) (hr : RdK W0 N A n xs) (hN : N ≤ W0.heap.size) (h0 : J [] W0) :
    CallsIn Fence.wide m Tryz.prog 113 #[.func (.yield l) #[] #[], .pointer (some ⟨b1, 0, none⟩), .pointer (some ⟨b2, 0, none⟩)] W0 fun e W' => (∃ v, e = .returned v) ∧
      ((∃ ys, ys = xs.map Kp.id ∧ J ys W') ∨ (∃ pre, pre <+: xs.map Kp.id ∧ Jx pre W')) := by
  have HY := Lib.hid hY
  have Hr := Lib.hid hr
  have H1 := Lib.hid h1
  have H2 := Lib.hid h2
  have HJ := Lib.hid hJ
  have HN := Lib.hid hN
  have HM := Lib.hid hm
  have H0 := Lib.hid h0
  clear hY hr h1 h2 hJ hN hm h0
  refine callsIn_of_wp Tryz.func113 rfl trivial ?_ rfl
  simp only [Tryz.ntmps113, List.size_toArray, List.length_cons, List.length_nil, Nat.reduceAdd, Nat.reduceSub, Array.replicate_succ, Array.replicate_zero, List.push_toArray, List.append_toArray, List.nil_append, List.cons_append]
  gi_wp2_with fail
  refine wpIn_wide.2 (wp_scope_back_behind 0 (kpAt l b1 b2 N A n c xs J)
    (fun a' _ => n - (intOf (a'.tmps.getD 4 undef)).toNat) rfl (wpIn_wide (n := m).1 ?ahead) (fun a' w' hJ' => wpIn_wide (n := m).1 ?pass))
  case ahead =>
    gi_wp2_with fail
    exact ⟨[], xs, _, _, _, _, _, _, _, _, _, _, _, _, _, _, _, _, rfl, rfl, hB1, hB2, Hr.out, HN.out, H0.out⟩
  case pass =>
    obtain ⟨pre, rest, u5, u6, u7, u8, u9, u10, u11, u12, u13, u14, u15, u16, u17, u18, u19, u20, rfl, hx, hB1', hB2', hr', hN', hJp⟩ := hJ'
    clear hB1 hB2
    have Hr' := Lib.hid hr'
    have HN' := Lib.hid hN'
    have Hx := Lib.hid hx
    have HJp := Lib.hid hJp
    have hl : pre.length + rest.length = n := by have := hr'.1; rw [hx, List.length_append] at this; exact this
    clear hr' hx hJp hN'
    cases rest with
    | nil =>
      have hge : decide (pre.length < n) = false := by simp at hl ⊢; omega
      have HE := Lib.hid (show xs.map Kp.id = pre.map Kp.id by rw [Hx.out, List.append_nil])
      clear hl
      have HT : Hid ((fun V' : World => V'.cell? ⟨b1, 0, none⟩ = some (.slice A n c) ∧ V'.cell? ⟨b2, 0, none⟩ = some (.func (.func 63) #[] #[]) ∧ True) w'.drew) := Lib.hid ⟨hB1', hB2', trivial⟩
      have HL : Hid (∀ V' : World, V'.cell? ⟨b1, 0, none⟩ = some (.slice A n c) ∧ V'.cell? ⟨b2, 0, none⟩ = some (.func (.func 63) #[] #[]) ∧ True → V'.cell? ⟨b1, 0, none⟩ = some (.slice A n c) ∧ V'.cell? ⟨b2, 0, none⟩ = some (.func (.func 63) #[] #[]) ∧ True) := Lib.hid (fun V' h => h)
      gi_wp2_with fail
      refine wpIn_region_F (ls := []) (T := (fun V' : World => V'.cell? ⟨b1, 0, none⟩ = some (.slice A n c) ∧ V'.cell? ⟨b2, 0, none⟩ = some (.func (.func 63) #[] #[]) ∧ True)) (by kernel_rfl) ?_
      refine takeQ (i := 0) (v := ?_) rfl (fun _ => rfl) rfl (by kernel_rfl) (by kernel_rfl) (by kernel_rfl) (by kernel_rfl) (fun _ _ _ h => h) (by rfl) ?_ (fun _ => HT.out) ?_
      rotate_left
      · intro V'; go_simp <;> with_reducible rfl
      simp only [Act.put, lA, lZ, lS]
      refine takeF (i := 1) (v := ?_) rfl (fun _ => rfl) rfl (by kernel_rfl) (by kernel_rfl) (by kernel_rfl) (by kernel_rfl) (fun _ _ _ h => h) (by rfl) ?_ HT.out ?_
      rotate_left
      · intro V' hV; obtain ⟨d1, d2, dx⟩ := HL.out V' hV; go_simp <;> with_reducible rfl
      simp only [Act.put, lA, lZ, lS]
      refine takeF (i := 2) (v := ?_) rfl (fun _ => rfl) rfl (by kernel_rfl) (by kernel_rfl) (by kernel_rfl) (by kernel_rfl) (fun _ _ _ h => h) (by rfl) ?_ HT.out ?_
      rotate_left
      · intro V' hV; obtain ⟨d1, d2, dx⟩ := HL.out V' hV; go_simp <;> with_reducible rfl
      simp only [Act.put, lA, lZ, lS]
      refine takeQ (i := 3) (v := ?_) rfl (fun _ => rfl) rfl (by kernel_rfl) (by kernel_rfl) (by kernel_rfl) (by kernel_rfl) (fun _ _ _ h => h) (by rfl) ?_ (fun _ => HT.out) ?_
      rotate_left
      · intro V'; go_simp <;> with_reducible rfl
      simp only [Act.put, lA, lZ, lS]
      refine takeQ (i := 4) (v := ?_) rfl (fun _ => rfl) rfl (by kernel_rfl) (by kernel_rfl) (by kernel_rfl) (by kernel_rfl) (fun _ _ _ h => h) (by rfl) ?_ (fun _ => HT.out) ?_
      rotate_left
      · intro V'; go_simp <;> with_reducible rfl
      simp only [Act.put, lA, lZ, lS]
      refine skipF (i := 5) rfl (fun _ => rfl) rfl (by kernel_rfl) (by kernel_rfl) (by kernel_rfl) (by kernel_rfl) (fun _ _ _ h => h) (by rfl) (fun _ => HT.out) ?_
      simp only [Act.put, lA, lZ, lS]
      refine skipF (i := 6) rfl (fun _ => rfl) rfl (by kernel_rfl) (by kernel_rfl) (by kernel_rfl) (by kernel_rfl) (fun _ _ _ h => h) (by rfl) (fun _ => HT.out) ?_
      simp only [Act.put, lA, lZ, lS]
      refine skipF (i := 7) rfl (fun _ => rfl) rfl (by kernel_rfl) (by kernel_rfl) (by kernel_rfl) (by kernel_rfl) (fun _ _ _ h => h) (by rfl) (fun _ => HT.out) ?_
      simp only [Act.put, lA, lZ, lS]
      refine skipF (i := 8) rfl (fun _ => rfl) rfl (by kernel_rfl) (by kernel_rfl) (by kernel_rfl) (by kernel_rfl) (fun _ _ _ h => h) (by rfl) (fun _ => HT.out) ?_
      simp only [Act.put, lA, lZ, lS]
      refine skipF (i := 9) rfl (fun _ => rfl) rfl (by kernel_rfl) (by kernel_rfl) (by kernel_rfl) (by kernel_rfl) (fun _ _ _ h => h) (by rfl) (fun _ => HT.out) ?_
      simp only [Act.put, lA, lZ, lS]
      refine skipF (i := 10) rfl (fun _ => rfl) rfl (by kernel_rfl) (by kernel_rfl) (by kernel_rfl) (by kernel_rfl) (fun _ _ _ h => h) (by rfl) (fun _ => HT.out) ?_
      simp only [Act.put, lA, lZ, lS]
      refine skipF (i := 11) rfl (fun _ => rfl) rfl (by kernel_rfl) (by kernel_rfl) (by kernel_rfl) (by kernel_rfl) (fun _ _ _ h => h) (by rfl) (fun _ => HT.out) ?_
      simp only [Act.put, lA, lZ, lS]
      refine skipF (i := 12) rfl (fun _ => rfl) rfl (by kernel_rfl) (by kernel_rfl) (by kernel_rfl) (by kernel_rfl) (fun _ _ _ h => h) (by rfl) (fun _ => HT.out) ?_
      simp only [Act.put, lA, lZ, lS]
      refine takeQ (i := 13) (v := ?_) rfl (fun _ => rfl) rfl (by kernel_rfl) (by kernel_rfl) (by kernel_rfl) (by kernel_rfl) (fun _ _ _ h => h) (by rfl) ?_ (fun _ => HT.out) ?_
      rotate_left
      · intro V'; go_simp <;> with_reducible rfl
      simp only [Act.put, lA, lZ, lS]
      refine doneF (by kernel_rfl) ?_ _
      gi_wp2_with fail
      simp only [Exit.jump]
      go_end0
      exact ⟨⟨_, rfl⟩, .inl ⟨_, HE.out.symm, HJ.out _ _ _ none HJp.out ⟨rfl, rfl, rfl, Nat.le_refl _, fun _ _ _ => rfl⟩ (fun r e => by cases e)⟩⟩
    | cons x rest =>
      have hltn : pre.length < n := by simp at hl; omega
      have hlt : (pre.length : Int) < (n : Int) := by omega
      have hx : xs[pre.length]? = some x := by rw [Hx.out]; simp
      obtain ⟨b, off, rfl, hb, hc⟩ := RdK.at_ Hr'.out (by omega)
      have HC := Lib.hid (hc _ _ hx)
      have hbs : b < N := hb
      have Hb := Lib.hid hbs
      have Hl := Lib.hid hl
      clear hc hx hl hb hbs
      have HT : Hid ((fun V' : World => Below N w' V') w'.drew) := Lib.hid (below_dr (Below.refl N w') 1)
      have HL : Hid (∀ V' : World, Below N w' V' → V'.cell? ⟨b1, 0, none⟩ = some (.slice (some ⟨b, off, none⟩) n c) ∧ V'.cell? ⟨b2, 0, none⟩ = some (.func (.func 63) #[] #[]) ∧ KpAt V' b (off + pre.length * 8) x) :=
        Lib.hid (fun V' h => ⟨(h.cell (p := ⟨b1, 0, none⟩) H1.out).trans hB1', (h.cell (p := ⟨b2, 0, none⟩) H2.out).trans hB2', KpAt_below HC.out h Hb.out⟩)
      gi_wp2_with fail
      refine wpIn_region_F (ls := [12]) (T := (fun V' : World => Below N w' V')) (by kernel_rfl) ?_
      refine takeQ (i := 0) (v := ?_) rfl (fun _ => rfl) rfl (by kernel_rfl) (by kernel_rfl) (by kernel_rfl) (by kernel_rfl) (fun _ _ _ h => h) (by rfl) ?_ (fun _ => HT.out) ?_
      rotate_left
      · intro V'; go_simp <;> with_reducible rfl
      simp only [Act.put, lA, lZ, lS]
      refine takeF (i := 1) (v := ?_) rfl (fun _ => rfl) rfl (by kernel_rfl) (by kernel_rfl) (by kernel_rfl) (by kernel_rfl) (fun _ _ _ h => h) (by rfl) ?_ HT.out ?_
      rotate_left
      · intro V' hV; obtain ⟨d1, d2, dx⟩ := HL.out V' hV; go_simp <;> with_reducible rfl
      simp only [Act.put, lA, lZ, lS]
      refine takeF (i := 2) (v := ?_) rfl (fun _ => rfl) rfl (by kernel_rfl) (by kernel_rfl) (by kernel_rfl) (by kernel_rfl) (fun _ _ _ h => h) (by rfl) ?_ HT.out ?_
      rotate_left
      · intro V' hV; obtain ⟨d1, d2, dx⟩ := HL.out V' hV; go_simp <;> with_reducible rfl
      simp only [Act.put, lA, lZ, lS]
      refine takeQ (i := 3) (v := ?_) rfl (fun _ => rfl) rfl (by kernel_rfl) (by kernel_rfl) (by kernel_rfl) (by kernel_rfl) (fun _ _ _ h => h) (by rfl) ?_ (fun _ => HT.out) ?_
      rotate_left
      · intro V'; go_simp <;> with_reducible rfl
      simp only [Act.put, lA, lZ, lS]
      refine takeQ (i := 4) (v := ?_) rfl (fun _ => rfl) rfl (by kernel_rfl) (by kernel_rfl) (by kernel_rfl) (by kernel_rfl) (fun _ _ _ h => h) (by rfl) ?_ (fun _ => HT.out) ?_
      rotate_left
      · intro V'; go_simp <;> with_reducible rfl
      simp only [Act.put, lA, lZ, lS]
      refine takeQ (i := 5) (v := ?_) rfl (fun _ => rfl) rfl (by kernel_rfl) (by kernel_rfl) (by kernel_rfl) (by kernel_rfl) (fun _ _ _ h => h) (by rfl) ?_ (fun _ => HT.out) ?_
      rotate_left
      · intro V'; go_simp <;> with_reducible rfl
      simp only [Act.put, lA, lZ, lS]
      refine takeF (i := 6) (v := ?_) rfl (fun _ => rfl) rfl (by kernel_rfl) (by kernel_rfl) (by kernel_rfl) (by kernel_rfl) (fun _ _ _ h => h) (by rfl) ?_ HT.out ?_
      rotate_left
      · intro V' hV; obtain ⟨d1, d2, dx⟩ := HL.out V' hV; go_simp <;> with_reducible rfl
      simp only [Act.put, lA, lZ, lS]
      refine takeF (i := 7) (v := ?_) rfl (fun _ => rfl) rfl (by kernel_rfl) (by kernel_rfl) (by kernel_rfl) (by kernel_rfl) (fun _ _ _ h => h) (by rfl) ?_ HT.out ?_
      rotate_left
      · intro V' hV; obtain ⟨d1, d2, dx⟩ := HL.out V' hV; go_simp <;> with_reducible rfl
      simp only [Act.put, lA, lZ, lS]
      refine takeQ (i := 8) (v := ?_) rfl (fun _ => rfl) rfl (by kernel_rfl) (by kernel_rfl) (by kernel_rfl) (by kernel_rfl) (fun _ _ _ h => h) (by rfl) ?_ (fun _ => HT.out) ?_
      rotate_left
      · intro V'; go_simp <;> with_reducible rfl
      simp only [Act.put, lA, lZ, lS]
      refine takeF (i := 9) (v := ?_) rfl (fun _ => rfl) rfl (by kernel_rfl) (by kernel_rfl) (by kernel_rfl) (by kernel_rfl) (fun _ _ _ h => h) (by rfl) ?_ HT.out ?_
      rotate_left
      · intro V' hV; obtain ⟨d1, d2, dx⟩ := HL.out V' hV; go_simp <;> with_reducible rfl
      simp only [Act.put, lA, lZ, lS]
      refine takeF (i := 10) (v := ?_) rfl (fun _ => rfl) rfl (by kernel_rfl) (by kernel_rfl) (by kernel_rfl) (by kernel_rfl) (fun _ _ _ h => h) (by rfl) ?_ HT.out ?_
      rotate_left
      · intro V' hV; obtain ⟨d1, d2, dx⟩ := HL.out V' hV; obtain ⟨c0, c1, c2, c3, c4, c5, c6, c7⟩ := dx; go_simp <;> with_reducible rfl
      simp only [Act.put, lA, lZ, lS]
      refine oneF (i := 11) rfl (by kernel_rfl) (by rfl) (fun K hK => ?_)
      go_simp
      refine ⟨trivial, fun h => (by cases h), (callsIn_wide.2 (kpNum_any x _)).mono ?_⟩
      rintro e w1 ⟨rfl, bw⟩
      have HB1 := Lib.hid (show Below N w' w1 from (below_dr (Below.refl N w') 1).trans (bw.mono HN'.out))
      have hJ1 : J (pre.map Kp.id) w1 := HJ.out _ w' w1 none HJp.out ⟨HB1.out.os, HB1.out.tape, HB1.out.output, HB1.out.size, fun i hi _ => bw.block i hi⟩ (fun r e => by cases e)
      refine hK.out _ _ (fun _ => HB1.out) ?_
      clear hK K bw
      obtain ⟨fn, tmps, assign, body, hy, hR⟩ := HY.out (pre.map Kp.id) x.id w1 hJ1 (by rw [Hx.out]; simp)
      have HR := Lib.hid hR
      clear hR hJ1
      refine oneM (i := 12) (by kernel_rfl) rfl (by kernel_rfl) (by rfl) (fun K hK => ?_)
      go_simp
      refine ⟨fun h => (by cases h), HR.out.mono ?_⟩
      rintro e W3 (⟨rfl, hJ3, hk3⟩ | ⟨rfl, hJx3⟩)
      · have HJ3 := Lib.hid hJ3
        have HK3 := Lib.hid hk3
        clear hJ3 hk3
        refine hK.out _ _ ?_
        clear hK K
        refine takeQ (i := 13) (v := ?_) rfl (fun _ => rfl) rfl (by kernel_rfl) (by kernel_rfl) (by kernel_rfl) (by kernel_rfl) (fun _ _ _ h => h) (by rfl) ?_ (fun h => absurd h (by decide)) ?_
        rotate_left
        · intro V'; go_simp <;> with_reducible rfl
        simp only [Act.put, lA, lZ, lS]
        refine doneF (by kernel_rfl) ?_ _
        have hb3 : W3.cell? ⟨b1, 0, none⟩ = some (.slice (some ⟨b, off, none⟩) n c) := ((HK3.out.cell (p := ⟨b1, 0, none⟩) H1.out).trans (HB1.out.cell (p := ⟨b1, 0, none⟩) H1.out)).trans hB1'
        have hb4 : W3.cell? ⟨b2, 0, none⟩ = some (.func (.func 63) #[] #[]) := ((HK3.out.cell (p := ⟨b2, 0, none⟩) H2.out).trans (HB1.out.cell (p := ⟨b2, 0, none⟩) H2.out)).trans hB2'
        gi_wp2_with fail
        refine wpIn_goto ?_
        have el : ((pre.length : Int) + 1) = ((pre ++ [x]).length : Int) := by simp
        rw [el]
        refine ⟨rfl, ⟨pre ++ [x], rest, _, _, _, _, _, _, _, _, _, _, _, _, _, _, _, _, rfl, by rw [Hx.out]; simp, hb3, hb4, (Hr'.out.below HB1.out).below HK3.out, Nat.le_trans HN'.out (Nat.le_trans HB1.out.size HK3.out.size), by rw [List.map_append]; exact HJ3.out⟩, ?_⟩
        have := Hl.out
        simp at this
        simp [intOf]; omega
      · have HJx := Lib.hid hJx3
        clear hJx3
        refine hK.out _ _ ?_
        clear hK K
        refine takeQ (i := 13) (v := ?_) rfl (fun _ => rfl) rfl (by kernel_rfl) (by kernel_rfl) (by kernel_rfl) (by kernel_rfl) (fun _ _ _ h => h) (by rfl) ?_ (fun h => absurd h (by decide)) ?_
        rotate_left
        · intro V'; go_simp <;> with_reducible rfl
        simp only [Act.put, lA, lZ, lS]
        refine doneF (by kernel_rfl) ?_ _
        gi_wp2_with fail
        simp only [Exit.jump]
        go_end0
        exact ⟨⟨_, rfl⟩, .inr ⟨pre.map Kp.id ++ [x.id], prefix_snoc (by rw [Hx.out, List.map_append, List.map_cons]), HJx.out⟩⟩

/-- The iterator hands over the numbers, in order. -/
theorem kpEach_stops (m b1 b2 N : Nat) (A : Option Addr) (n c : Nat) (xs : List Kp) (hn : n ≤ 1000000) (hm : 1 ≤ m) (h1 : b1 < N) (h2 : b2 < N) (w : World) (hN : N ≤ w.heap.size) (hB1 : w.cell? ⟨b1, 0, none⟩ = some (.slice A n c)) (hB2 : w.cell? ⟨b2, 0, none⟩ = some (.func (.func 63) #[] #[])) (hr : RdK w N A n xs) :
    SeqStopsK Fence.wide m Tryz.prog 113 #[.pointer (some ⟨b1, 0, none⟩), .pointer (some ⟨b2, 0, none⟩)] (fun x : Int => #[Value.int .i64 x]) (fun W W' => Below N W W') (fun ys => ys = xs.map Kp.id) (fun pre => pre <+: xs.map Kp.id) (xs.map Kp.id).length w := fun l J Jx W hW hJ _ hY h0 =>
  kpEach1_in m l b1 b2 N A n c xs hn hm h1 h2 J Jx hY W hJ (((hW.mono hN).cell (p := ⟨b1, 0, none⟩) h1).trans hB1) (((hW.mono hN).cell (p := ⟨b2, 0, none⟩) h2).trans hB2) (hr.below (hW.mono hN)) (Nat.le_trans hN hW.size) h0

end Go.Proofs.YtdaimejlcfhfiaaGreatDoor

namespace Go.Proofs.YtdaimejlcfhfiaaGreatDoor
open Go.RowKit Go.Shelf
attribute [local go_sem] Oper.semAt_some

/-- The place of the first one, or -1. -/
def placeF (q : Int → Bool) (xs : List Int) : Int := match xs.findIdx? q with | some i => i | none => -1
theorem placeF_none {q : Int → Bool} {xs : List Int} (h : ∀ x ∈ xs, q x = false) : placeF q xs = -1 := by
  have : xs.findIdx? q = none := by rw [List.findIdx?_eq_none_iff]; exact h
  simp [placeF, this]
theorem placeF_some {q : Int → Bool} {pre xs : List Int} {x : Int} (hp : pre ++ [x] <+: xs) (h : ∀ y ∈ pre, q y = false) (hx : q x = true) : placeF q xs = (pre.length : Int) := by
  obtain ⟨t, ht⟩ := hp
  have h1 : xs[pre.length]? = some x := by rw [← ht]; simp
  have : xs.findIdx? q = some pre.length := findIdx_first h1 hx (fun y hy => by
    rw [← ht, List.append_assoc, List.take_left] at hy
    exact h y hy)
  simp [placeF, this]

/-- An iterator that hands over these numbers. -/
def SeqI (g b1 b2 : Nat) (xs : List Int) (w : World) : Prop := b1 < w.heap.size ∧ b2 < w.heap.size ∧ ∀ m W, 1 ≤ m → Below w.heap.size w W →
  SeqStopsK Fence.wide m Tryz.prog g #[.pointer (some ⟨b1, 0, none⟩), .pointer (some ⟨b2, 0, none⟩)] (fun x : Int => #[Value.int .i64 x]) (fun V V' => Below w.heap.size V V') (fun ys => ys = xs) (fun pre => pre <+: xs) xs.length W
theorem boxed_under {W W' : World} {B : Nat} {t : TypeId} {v : Value} (h : Boxed W B t v) (hb : Below W.heap.size W W') : Boxed W' B t v := (hb.block B (Array.getElem?_eq_some_iff.1 h).1).trans h
theorem below_put {N l : Nat} {W : World} {o : Obj} (hl : N ≤ l) (ho : W.heap[l]? = some o) (o' : Obj) : Below N W (W.putObj l o') :=
  (Below.refl N W).grown (grownBy_putObj' W l o') (by have := (Array.getElem?_eq_some_iff.1 ho).1; omega) (fun k e => by cases e; exact hl)

/-- What holds between two rounds of 'place', and where one has left. -/
structure PlAt (q : Int → Bool) (f cb : Nat) (w : World) (pre : List Int) (W : World) : Prop where
  no : ∀ y ∈ pre, q y = false
  is_ : Whole W w.heap.size 78 #[.func (.func f) #[] #[.pointer (some ⟨cb, 0, none⟩)]]
  res : Boxed W (w.heap.size + 1) 3 (.int .i64 0)
  at_ : Boxed W (w.heap.size + 1 + 1) 3 (.int .i64 (pre.length : Int))
  below : Below w.heap.size w W
structure PlOut (q : Int → Bool) (w : World) (pre : List Int) (W : World) : Prop where
  yes : ∃ p x, pre = p ++ [x] ∧ (∀ y ∈ p, q y = false) ∧ q x = true ∧ Boxed W (w.heap.size + 1) 3 (.int .i64 (p.length : Int))
  below : Below w.heap.size w W
theorem plAt_own (q : Int → Bool) (f cb : Nat) (w : World) (B : Nat) (hB : w.heap.size ≤ B) : OwnFrom B (PlAt q f cb w) := by
  intro pre W W' row h hg hr
  have hr' : ∀ r, row = some r → ∃ o : Obj, W.heap[r]? = some o ∧ o.isCells = false := fun r e => (hr r e).2
  exact ⟨h.no, h.is_.turn hg hr', boxed_turn h.res hg hr', boxed_turn h.at_ hg hr', h.below.grown hg h.below.size (fun k e => by have := (hr k e).1; omega)⟩
theorem plOut_own (q : Int → Bool) (w : World) (B : Nat) (hB : w.heap.size ≤ B) : OwnFrom B (PlOut q w) := by
  intro pre W W' row h hg hr
  have hr' : ∀ r, row = some r → ∃ o : Obj, W.heap[r]? = some o ∧ o.isCells = false := fun r e => (hr r e).2
  obtain ⟨p, x, h1, h2, h3, h4⟩ := h.yes
  exact ⟨⟨p, x, h1, h2, h3, boxed_turn h4 hg hr'⟩, h.below.grown hg h.below.size (fun k e => by have := (hr k e).1; omega)⟩

set_option maxHeartbeats 1000000 in
theorem place_any (g b1 b2 f cb : Nat) (xs : List Int) (q : Int → Bool) (w : World) (egg : ∀ args w, (callFunc g args).run Tryz.prog w = .ok (.enter g args) w) (egf : ∀ args w, (callFunc f args).run Tryz.prog w = .ok (.enter f args) w)
    (hseq : SeqI g b1 b2 xs w) (hlen : xs.length ≤ 1000000)
    (hq : ∀ n W, Below w.heap.size w W → Calls Tryz.prog f #[.int .i64 n, .pointer (some ⟨cb, 0, none⟩)] W (BoolPost (q n) W)) :
    Calls Tryz.prog 38 #[.func (.func g) #[] #[.pointer (some ⟨b1, 0, none⟩), .pointer (some ⟨b2, 0, none⟩)], .func (.func f) #[] #[.pointer (some ⟨cb, 0, none⟩)]] w (IntPost (placeF q xs) w) := by
  have HS := Lib.hid hseq
  have HQ := Lib.hid hq
  have EG := Lib.hid egg
  clear hseq hq egg
  refine (callsIn_wide (n := 6)).1 ?_
  refine callsIn_of_wp_marks Tryz.func38 rfl trivial ?_ rfl
  simp only [Tryz.ntmps38, List.size_toArray, List.length_cons, List.length_nil, Nat.reduceAdd, Nat.reduceSub, Array.replicate_succ, Array.replicate_zero, List.push_toArray, List.append_toArray, List.nil_append, List.cons_append]
  gi_wp2_with fail
  obtain ⟨hb0, w0, w1, w2⟩ := three_new w 78 3 3 #[.func (.func f) #[] #[.pointer (some ⟨cb, 0, none⟩)]] #[.int .i64 0] #[.int .i64 0]
  obtain ⟨W0, hW0⟩ : ∃ W0, (((w.alloc (.cells #[.func (.func f) #[] #[.pointer (some ⟨cb, 0, none⟩)]] 78)).alloc (.cells #[.int .i64 0] 3)).alloc (.cells #[.int .i64 0] 3)) = W0 := ⟨_, rfl⟩
  have hs0 : W0.heap.size = w.heap.size + 1 + 1 + 1 := by rw [← hW0]; simp
  rw [hW0] at hb0 w0 w1 w2
  have hInv : PlAt q f cb w [] W0 := ⟨by simp, w0, w1, w2, hb0⟩
  first | rw [hW0] | skip
  clear hW0 w0 w1 w2
  refine wpIn_rangeFunc_ownF rfl (by omega) (gf := g) (lb := #[.pointer (some ⟨b1, 0, none⟩), .pointer (some ⟨b2, 0, none⟩)]) rfl trivial EG.out
    (HS.out.2.2 5 W0 (by omega) hb0) (fun h k => h.trans k) (fun W l o o' hl ho _ _ => below_put (by have := hb0.size; omega) ho o') (Below.refl _ _) (fun _ => rfl)
    (PlAt q f cb w) (fun k pre W => k = .ret ∧ PlOut q w pre W)
    (plAt_own _ _ _ _ _ (by omega)) (fun k pre W W' row h hg hr => ⟨h.1, plOut_own q w W0.heap.size (by omega) pre W W' row h.2 hg hr⟩) hInv
    (fun x => { tmps := #[.func (.func g) #[] #[.pointer (some ⟨b1, 0, none⟩), .pointer (some ⟨b2, 0, none⟩)], .func (.func f) #[] #[.pointer (some ⟨cb, 0, none⟩)], undef, .pointer (some ⟨w.heap.size, 0, none⟩), .pointer (some ⟨w.heap.size + 1, 0, none⟩), .pointer (some ⟨w.heap.size + 1 + 1, 0, none⟩), .int .i64 x, .func (.func g) #[] #[.pointer (some ⟨b1, 0, none⟩), .pointer (some ⟨b2, 0, none⟩)], .int .i64 x, undef, undef, undef, undef, undef, undef], defers := [] }) ?assign ?body ?done ?stop
  case assign =>
    intro l x W K hK
    gi_wp2
    exact hK
  case body =>
    rintro l pre x W hI hlen
    have c0 := hI.is_.cell 0
    simp only [List.getElem?_toArray, List.getElem?_cons_zero] at c0
    have HI := Lib.hid hI
    clear hI
    gi_wp2_with fail
    refine ⟨trivial, (CallsIn.inRound l (callsIn_wide.2 (HQ.out x W HI.out.below))).mono ?_⟩
    rintro e w1 ⟨rfl, bw⟩
    have r1 := boxed_under HI.out.res bw
    have a1 := boxed_under HI.out.at_ bw
    have c1 := a1.cell
    have f1 := a1.frozen
    have c2 := r1.cell
    have f2 := r1.frozen
    have B1 := Lib.hid (HI.out.below.trans (bw.mono HI.out.below.size))
    have K1 := Lib.hid (keeps_under bw)
    have I1 := Lib.hid (HI.out.is_.under bw)
    have R1 := Lib.hid r1
    have A1 := Lib.hid a1
    have Bw := Lib.hid bw
    have hpl : (pre.length : Int) + 1 ≤ 9223372036854775807 := by omega
    clear r1 a1 bw c0
    cases hqx : q x with
    | true =>
      have HX := Lib.hid hqx
      clear hqx
      gi_wp2_with fail
      exact ⟨K1.out.trans (KeepsOthers.setCell _ _ _), rfl, ⟨pre, x, rfl, HI.out.no, HX.out, R1.out.set _⟩, B1.out.setCell (p := ⟨w.heap.size + 1, 0, none⟩) (Nat.le_succ _) _⟩
    | false =>
      have HX := Lib.hid hqx
      clear hqx
      gi_wp2_with fail
      refine ⟨K1.out.trans (KeepsOthers.setCell _ _ _), (Bw.out.mono HI.out.below.size).setCell (p := ⟨w.heap.size + 1 + 1, 0, none⟩) (by simp only; omega) _, ?_, I1.out.far (p := ⟨w.heap.size + 1 + 1, 0, none⟩) (by simp only; omega) _, R1.out.other (by omega) _, ?_, B1.out.setCell (p := ⟨w.heap.size + 1 + 1, 0, none⟩) (by simp only; omega) _⟩
      · intro y hy
        rcases List.mem_append.1 hy with h | h
        · exact HI.out.no y h
        · rw [List.mem_singleton.1 h]; exact HX.out
      · have := A1.out.set (.int .i64 ((pre.length : Int) + 1))
        rwa [show ((pre.length : Int) + 1) = ((pre ++ [x]).length : Int) by simp] at this ⊢
  case done =>
    rintro D ys W hD rfl hI hK
    have c2 := hI.res.cell
    have f2 := hI.res.frozen
    have HK := Lib.hid hK
    have HI := Lib.hid hI
    clear hK hI
    gi_wp2_with fail
    have hK1 : (W.setCell ⟨w.heap.size + 1, 0, none⟩ (.int .i64 (-1))).heap[D]? = some (.deferred (some [])) := (KeepsOthers.setCell _ _ _).same D _ HK.out rfl
    have r1 := HI.out.res.set (.int .i64 (-1))
    have hb : Below w.heap.size w (W.setCell ⟨w.heap.size + 1, 0, none⟩ (.int .i64 (-1))) := HI.out.below.setCell (p := ⟨w.heap.size + 1, 0, none⟩) (Nat.le_succ _) _
    obtain ⟨W1, hW1⟩ : ∃ W1, W.setCell ⟨w.heap.size + 1, 0, none⟩ (.int .i64 (-1)) = W1 := ⟨_, rfl⟩
    rw [hW1] at hK1 r1 hb ⊢
    have hg' := grownBy_putObj' W1 D (.deferred none)
    have hr' : ∀ r, (some D) = some r → ∃ o : Obj, W1.heap[r]? = some o ∧ o.isCells = false := fun r e => by cases e; exact ⟨_, hK1, rfl⟩
    have q1 := (boxed_turn r1 hg' hr').cell
    refine ⟨by simp, .inl ⟨_, _, rfl, run_takeDeferred hK1, ?_⟩⟩
    refine ⟨.int .i64 (-1), by simp [results, Tryz.results38, go_sem, q1], by rw [placeF_none HI.out.no], ?_⟩
    exact hb.trans ((Below.refl _ _).grown hg' hb.size (fun k e => by cases e; omega))
  case stop =>
    rintro D k pre W hD hpre ⟨rfl, hO⟩ hK
    obtain ⟨p, x, rfl, h1, h2, h3⟩ := hO.yes
    gi_wp2_with fail
    have hg' := grownBy_putObj' W D (.deferred none)
    have hr' : ∀ r, (some D) = some r → ∃ o : Obj, W.heap[r]? = some o ∧ o.isCells = false := fun r e => by cases e; exact ⟨_, hK, rfl⟩
    have q1 := (boxed_turn h3 hg' hr').cell
    refine ⟨by simp, .inl ⟨_, _, rfl, run_takeDeferred hK, ?_⟩⟩
    refine ⟨.int .i64 (p.length : Int), by simp [results, Tryz.results38, go_sem, q1], by rw [placeF_some hpre h1 h2], ?_⟩
    exact hO.below.trans ((Below.refl _ _).grown hg' hO.below.size (fun k e => by cases e; omega))

end Go.Proofs.YtdaimejlcfhfiaaGreatDoor

namespace Go.Proofs.YtdaimejlcfhfiaaGreatDoor
open Go.RowKit Go.Shelf

def itsOk (sq : Int) : Int → List It → Bool
  | _, [] => true
  | last, x :: l => (decide (last < x.tok) && decide (x.tok ≤ sq)) && itsOk sq x.tok l
def kpsOk : Int → List Kp → Bool
  | _, [] => true
  | last, x :: l => ((decide (last < x.id) && decide (x.id ≤ brMax)) && (decide (1 ≤ x.phase) && decide (x.phase ≤ 10))) && kpsOk x.id l
def rfOk (r : Rf) : Bool := !decide (r.st = 1) || ((decide (1 ≤ r.fr) && decide (r.fr ≤ brMax)) && (decide (1 ≤ r.to_) && decide (r.to_ ≤ brMax)))
def setOk (p : Br) : Bool := if p.set = true then may p.cf else decide (p.its = []) && decide (p.rf.st = 0)
def rightBb (p : Br) : Bool := (isNum p.ep && isNum p.sq) && (itsOk p.sq 0 p.its && (kpsOk 0 p.kps && (rfOk p.rf && setOk p)))

end Go.Proofs.YtdaimejlcfhfiaaGreatDoor
