/-
  The walk of the statement 'NumOnly': it answers true, and nothing that was there turns. Conditions: none.
-/
import Derived.Test.YtmgibphhlppfhaaNumTakeRow
import Derived.Test.YtmgibphhlppfhaaNumLong
import Derived.Laws.AppendOwnNone
namespace Go.Proofs.Ytmgibphhlppfhaa
open Go.RowKit Go.Shelf

/-- 'append(v, x...)' at bytes: v of the call's own, x whatever reads. -/
theorem run_app (w : World) (base : Nat) (v : Value) (n : Nat) (xs : List Value) (hown : w.ownsRow base 5 1 v n xs) (B : Nat) (A : Option Addr) (m c : Nat) (bs : List Nat) (hr : Rd w B A m (bv bs)) (hm : n + m ≤ 1000000) (hbase : base ≤ w.heap.size) :
    ∃ v' w', (Builtin.append_ #[23, 23] 23 #[v, .slice A m c]).run Try.prog w = .ok v' w' ∧ w'.ownsRow base 5 1 v' (n + m) (xs ++ bv bs) ∧ w.grownBy w' v.ownBlock := by
  obtain ⟨i0, hi, hz0, hz1, hz2⟩ := info_parts info_u8
  rcases A with _ | ad
  · have hm0 : m = 0 := by
      rcases Nat.eq_zero_or_pos m with h | h
      · exact h
      · obtain ⟨b, off, e, _⟩ := hr.2 h
        cases e
    subst hm0
    have hb : bs = [] := by have := hr.1; rw [bv_length] at this; exact List.eq_nil_of_length_eq_zero this
    subst hb
    have ht := Try.underlying23
    refine ⟨v, w, ?_, by simpa [bv] using hown, World.grownBy.refl w _⟩
    rcases hown.2 with ⟨rfl, _⟩ | ⟨g, cap, cur, rfl, _, _, hnc, _⟩
    · simp [Builtin.append_, run_underlying ht, sizeOf, typeInfo, hi, Builtin.lenOf, Builtin.firstCells]
    · simp [Builtin.append_, run_underlying ht, sizeOf, typeInfo, hi, Builtin.lenOf, Builtin.firstCells, hnc, storeCells]
  · have hcells : ∀ j u, (bv bs)[j]? = some u → w.cell? (ad.add j) = some u := by
      intro j u hu
      have hj : j < m := by rw [← hr.1]; exact (List.getElem?_eq_some_iff.1 hu).1
      obtain ⟨b, off, e, _, hc⟩ := hr.2 (by omega)
      injection e with e
      subst e
      rw [Addr.add_lit, hc j hj, hu]
    obtain ⟨v', w', h1, h2, h3, _⟩ := run_append_own (P := Try.prog) w base 23 23 5 i0 (.int .u8 0) 1 1 Try.underlying23 hi hz0 hz1 hz2 rfl (by decide) v n xs hown ad m c (bv bs) (by rw [hr.1, Nat.mul_one]) hcells (bv_one bs) (by unfold maxLen; omega) (by omega) hbase
    exact ⟨v', w', h1, h2, h3⟩

/-- An append whose run is known, guarded or not. -/
theorem wpList_app {P : Program} {w : World} {ops : Array Oper} {rest : List Oper} {o : Oper} {a : Act} {Q : Exit → Act → World → Prop} (hw : Region.wanted o (yielded ops a.tmps) = true) (s x : Operand) (t : TypeId)
    (ho : o.op = .call { callee := .builtin .append, args := #[s, x], argTypes := #[t, t] }) (vs vx v' : Value) (w' : World) (hs : a.eval s = vs) (hx : a.eval x = vx)
    (hr : (Builtin.append_ #[t, t] o.type #[vs, vx]).run P w = .ok v' w') (h : wpList P ops Q rest (a.put o.dst v') w') : wpList P ops Q (o :: rest) a w := by
  unfold wpList
  rw [if_pos hw]
  left
  unfold Oper.wp execOp
  simp only [ho, resolve, invoke, builtin, Sem.run_bind, Sem.run_pure, Result.andThen_ok, List.map_toArray, List.map_cons, List.map_nil, hs, hx, hr]
  exact h

/-- 'append(append([]byte{}, a...), b...)': both run, and what comes reads as both. -/
theorem run_two (w : World) (B : Nat) (A1 A2 : Option Addr) (m1 c1 m2 c2 : Nat) (a b : List Nat) (h1 : Rd w B A1 m1 (bv a)) (h2 : Rd w B A2 m2 (bv b)) (hB : B ≤ w.heap.size) (hm : m1 + m2 ≤ 1000000) :
    ∃ v1 W1 A3 c3 W2, (Builtin.append_ #[23, 23] 23 #[.slice (some ⟨w.heap.size, 0, none⟩) 0 0, .slice A1 m1 c1]).run Try.prog (w.alloc (.cells #[] 5)) = .ok v1 W1 ∧
      (Builtin.append_ #[23, 23] 23 #[v1, .slice A2 m2 c2]).run Try.prog W1 = .ok (.slice A3 (m1 + m2) c3) W2 ∧ Rd W2 W2.heap.size A3 (m1 + m2) (bv (a ++ b)) ∧ Below w.heap.size w W2 ∧ m1 + m2 ≤ c3 := by
  have ho := World.ownsRow_made (base := w.heap.size) (e := 5) (size := 1) w #[] 0 (Nat.le_refl _) (Nat.zero_le _) rfl
  obtain ⟨v1, W1, r1, o1, g1⟩ := run_app (w.alloc (.cells #[] 5)) w.heap.size _ 0 [] ho B A1 m1 c1 a (h1.alloc hB _) (by omega) (by simp)
  have b1 : Below w.heap.size w W1 := ((Below.refl _ w).alloc (Nat.le_refl _) _).trans (below_row ho g1 (by simp))
  obtain ⟨v2, W2, r2, o2, g2⟩ := run_app W1 w.heap.size v1 (0 + m1) _ o1 B A2 m2 c2 b (h2.below (b1.mono hB)) (by omega) b1.size
  have b2 : Below w.heap.size w W2 := b1.trans (below_row o1 g2 b1.size)
  rw [Nat.zero_add, List.nil_append, ← bv_append] at o2
  obtain ⟨A3, c3, rfl⟩ := own_form o2
  have hc3 : m1 + m2 ≤ c3 := by
    rcases o2.2 with ⟨h3, h4⟩ | ⟨g, cap, cur, h3, _, _, h4, _⟩
    · omega
    · injection h3 with _ _ h5
      omega
  exact ⟨v1, W1, A3, c3, W2, r1, r2, Rd.of_own o2, b2, hc3⟩

set_option maxHeartbeats 400000 in
theorem only_out (A : Option Addr) (n c : Nat) (w : World) (h : 300 < n) :
    Calls Try.prog 4 #[.slice A n c] w fun e w' => e = .returned (.bool true) ∧ Below w.heap.size w w' := by
  have h' : (300 : Int) < (n : Int) := by omega
  go_enter Try.func4, Try.ntmps4
  go_wp2_with fail
  refine (wakes_any _).mono ?_
  rintro e w1 ⟨rfl, hb⟩
  go_wp2_with fail
  go_ret
  exact ⟨rfl, hb⟩

/-- What 'x[:len(x)-1]' is. -/
theorem run_less (A : Option Addr) (n c : Nat) (h0 : 0 < n) (hc : n ≤ c) (w : World) : (Instr.slice 23 (.slice A n c) none (some (.int .i64 ((n : Int) - 1))) none).run Try.prog w = .ok (.slice A (n - 1) c) w := by
  have h := run_head A n c (n - 1) (by omega) w
  rw [show ((n - 1 : Nat) : Int) = (n : Int) - 1 by omega] at h
  exact h

theorem nats_ints (l : List Nat) : nats (ints l) = l := by
  induction l with
  | nil => rfl
  | cons x l ih => simp only [nats, ints, List.map_cons, Int.toNat_natCast] at ih ⊢; rw [ih]
theorem ints_all {l : List Nat} (h : ∀ n ∈ l, n ≤ 1099511627776) : (ints l).all isNum = true := by
  simp only [List.all_eq_true, ints, List.mem_map]
  rintro x ⟨y, hy, rfl⟩
  exact isNum_yes (by omega) (by have := h y hy; omega)
theorem row_is {A : Option Addr} {c : Nat} {l : List Nat} {B : Nat} {w : World} (hr : Rd w B A l.length (iv (ints l))) (hB : B ≤ w.heap.size) (hn : l.length ≤ 40) (h : ∀ n ∈ l, n ≤ 1099511627776) :
    Calls Try.prog 12 #[.slice A l.length c] w (TwoPost w.heap.size (row l).length (bv (row l)) w) := by
  refine (row_short A l.length c (ints l) w (hr.more hB) hn).mono ?_
  rintro e w' (⟨_, A', c', he, hI⟩ | ⟨h0, _⟩)
  · rw [nats_ints] at he hI
    exact ⟨A', c', he, hI⟩
  · have h1 : (ints l).length = l.length := by simp [ints]
    simp only [isRow, ints_all h, Bool.and_true, decide_eq_false_iff_not] at h0; omega
theorem row_pos (l : List Nat) : 0 < (row l).length := by have := put_pos l.length; rw [row, List.length_append]; omega
theorem puts_len (l : List Nat) (h : ∀ n ∈ l, n ≤ 1099511627776) : (puts l).length ≤ 6 * l.length := by
  have := puts_six (ints l) (ints_all h)
  rw [nats_ints] at this
  simpa [ints] using this
theorem takes_is (A : Option Addr) (n c : Nat) (bs : List Nat) (B : Nat) (w : World) (hr : Rd w B A n (bv bs)) (hB : B ≤ w.heap.size) (hb : ∀ x ∈ bs, x < 256) (hn : n ≤ 140737488355328) (hc : n ≤ c) {E : Nat} {l rest : List Nat}
    (h1 : (takeRow bs).2.1 = l) (h2 : (takeRow bs).2.2 = E) (h3 : behindRow bs = rest) : Calls Try.prog 13 #[.slice A n c] w (RowIs l rest E w) := by
  subst h1; subst h2; subst h3
  exact takeRow_any A n c bs B w hr hB hb hn hc
theorem put_all {N : Nat} {k : Nat} : ∀ x ∈ (put N).take k, x < 256 := fun x hx => put_bytes N x (List.mem_of_mem_take hx)
theorem row_bytes (l : List Nat) : ∀ x ∈ row l, x < 256 := by
  intro x hx
  simp only [row, puts, List.mem_append, List.mem_flatMap] at hx
  rcases hx with hx | ⟨y, _, hx⟩
  · exact put_bytes _ x hx
  · exact put_bytes _ x hx

set_option maxRecDepth 100000 in
set_option maxHeartbeats 800000 in
theorem only_AA (A : Option Addr) (n c : Nat) (bs : List Nat) (w : World) (hr : Rd w w.heap.size A n (bv bs)) (hb : ∀ x ∈ bs, x < 256) (hn : n ≤ 300) (hc : n ≤ c) (hE : (first bs).2.2 = 0) (hG0 : (takeRow bs).2.2 = 0) :
    Calls Try.prog 4 #[.slice A n c] w fun e w' => e = .returned (.bool true) ∧ Below w.heap.size w w' := by
  have hl : bs.length = n := by have := hr.1; rwa [bv_length] at this
  obtain ⟨N, K, E, hF⟩ : ∃ N K E, first bs = (N, K, E) := ⟨_, _, _, rfl⟩
  obtain ⟨L, hL⟩ : ∃ L, behind bs = L := ⟨_, rfl⟩
  obtain ⟨U, M, G, hG⟩ : ∃ U M G, takeRow bs = (U, M, G) := ⟨_, _, _, rfl⟩
  obtain ⟨L2, hL2⟩ : ∃ L2, behindRow bs = L2 := ⟨_, rfl⟩
  have HT := Lib.hid (take_is A n c bs w.heap.size w hr (Nat.le_refl _) hb (by omega) hc (N := N) (E := E) (rest := L) (by rw [hF]) (by rw [hF]) hL)
  have HTR : Hid (∀ W : World, Below w.heap.size w W → Calls Try.prog 13 #[.slice A n c] W (RowIs M L2 G W)) := fun W hW =>
    takes_is A n c bs w.heap.size W (hr.below hW) hW.size hb (by omega) hc (by rw [hG]) (by rw [hG]) hL2
  have HR := Lib.hid hr
  have Hb := Lib.hid hb
  have HF := Lib.hid hF
  have HL := Lib.hid hL
  have Hl := Lib.hid hl
  have HG := Lib.hid hG
  have HL2 := Lib.hid hL2
  rw [hF] at hE
  rw [hG] at hG0
  simp only at hE hG0
  clear hr hb hF hL hl hG hL2
  subst hG0
  have hr1 := takeRow_only Hb.out (by rw [HG.out])
  rw [HG.out] at hr1
  have hbh : L2 = bs.drop U := by rw [← HL2.out, behindRow, HG.out, if_pos rfl]
  have HM : Hid (M.length ≤ 40 ∧ (∀ n ∈ M, n ≤ 1099511627776) ∧ row M ++ L2 = bs ∧ (row M).length + L2.length = n) := by
    refine ⟨hr1.2.1, hr1.2.2.1, by rw [hbh]; exact hr1.1.symm, ?_⟩
    have h1 : row M ++ L2 = bs := by rw [hbh]; exact hr1.1.symm
    rw [← Hl.out, ← h1, List.length_append]
  clear hr1 hbh
  subst hE
  have hok := first_only Hb.out HF.out
  have hbeh : L = bs.drop K := by rw [← HL.out, behind, HF.out, if_pos rfl]
  have hcat : put N ++ L = bs := by rw [hbeh]; exact hok.1.symm
  have hN := hok.2.2
  have hlen : (put N).length + L.length = n := by rw [← Hl.out, ← hcat, List.length_append]
  have hp := put_pos N
  have hcut := first_cut hN (k := (put N).length - 1) (by omega)
  have hne0 : (((put N).length : Int) == 0) = false := by rw [beq_eq_false_iff_ne]; omega
  have hq : (put N).length ≤ 300 := by omega
  have HC := Lib.hid hcat
  have HN := Lib.hid hN
  have HLen := Lib.hid hlen
  have HCut := Lib.hid hcut
  clear hok hbeh hcat hN hcut hlen
  go_enter Try.func4, Try.ntmps4
  go_wp2_with fail
  refine (HT.out).mono ?_
  rintro e w1 ⟨A1, c1, rfl, hI1⟩
  have R1 := hI1.rd
  have b1 : Below w.heap.size w w1 := hI1.2.1
  clear hI1
  go_wp2_with fail
  refine (put_yes N HN.out w1.heap.size _ (Nat.le_refl _)).mono ?_
  rintro e w2 ⟨A2, c2, rfl, hI2⟩
  have R2 := hI2.rd
  have hcap := hI2.cap
  have R1 := (R1.below hI2.2.1).more hI2.2.1.size
  have b2 : Below w.heap.size w w2 := b1.trans (hI2.2.1.mono b1.size)
  obtain ⟨v1, W1, A3, c3, W2, e1, e2, R3, b3, _⟩ := run_two w2 w2.heap.size A2 A1 (put N).length c2 L.length c1 (put N) L R2 R1 (Nat.le_refl _) (by have := HLen.out; omega)
  have hsl := fun w => run_less A2 (put N).length c2 hp hcap w
  clear hI2 b1 R1
  have E1 := Lib.hid e1
  have E2 := Lib.hid e2
  clear e1 e2
  go_wp2_with (first | (at_builtin; refine wpList_app (by rfl) _ _ _ rfl _ _ _ _ rfl rfl E1.out ?_; clear E1) | (at_builtin; refine wpList_app (by rfl) _ _ _ rfl _ _ _ _ rfl rfl E2.out ?_; clear E2))
  have b3' : Below w.heap.size w W2 := b2.trans (b3.mono b2.size)
  rw [HC.out] at R3
  refine (same_yes _ _ _ _ _ _ bs _ _ W2 R3 (HR.out.below b3') Hb.out).mono ?_
  rintro e w4 ⟨rfl, rfl⟩
  have R2 := ((R2.below b3).more b3.size).take (k := (put N).length - 1) (by omega)
  rw [bv, ← List.map_take] at R2
  clear R3
  go_wp2_with fail
  refine (take_is _ _ _ ((put N).take ((put N).length - 1)) _ W2 R2 (Nat.le_refl _) put_all (by have := HLen.out; omega) (by omega) (N := 0) (E := 10) (rest := []) (by rw [HCut.out]) (by rw [HCut.out]) (by rw [behind, HCut.out, if_neg (by simp)])).mono ?_
  rintro e w5 ⟨A5, c5, rfl, hI5⟩
  have b5 : Below w.heap.size w w5 := b3'.trans (hI5.2.1.mono b3'.size)
  clear hI5 R2 b3' b2 b3 hsl hne0 hcap
  go_wp2_with fail
  refine (HTR.out _ b5).mono ?_
  rintro e w6 ⟨A6, c6, A7, c7, rfl, o6, o7, b6⟩
  have S6 := (Rd.of_own o6)
  have S7 := (Rd.of_own o7)
  have b6' : Below w.heap.size w w6 := b5.trans (b6.mono b5.size)
  clear o6 o7 b6 b5
  go_wp2_with fail
  refine (row_is S6 (Nat.le_refl _) HM.out.1 HM.out.2.1).mono ?_
  rintro e w7 ⟨A8, c8, rfl, hI8⟩
  have S8 := hI8.rd
  have hcap8 := hI8.cap
  have S7 := (S7.below hI8.2.1).more hI8.2.1.size
  have b7 : Below w.heap.size w w7 := b6'.trans (hI8.2.1.mono b6'.size)
  obtain ⟨v2, W3, A9, c9, W4, e1, e2, S9, b9, _⟩ := run_two w7 w7.heap.size A8 A7 (row M).length c8 L2.length c7 (row M) L2 S8 S7 (Nat.le_refl _) (by have := HM.out.2.2.2; omega)
  have hsl := fun w => run_less A8 (row M).length c8 (row_pos M) hcap8 w
  have hp8 := row_pos M
  have hq8 : (row M).length ≤ 300 := by have := HM.out.2.2.2; omega
  have hne8 : (((row M).length : Int) == 0) = false := by rw [beq_eq_false_iff_ne]; omega
  clear hI8 S6 S7 b6'
  have E1 := Lib.hid e1
  have E2 := Lib.hid e2
  clear e1 e2
  go_wp2_with (first | (at_builtin; refine wpList_app (by rfl) _ _ _ rfl _ _ _ _ rfl rfl E1.out ?_; clear E1) | (at_builtin; refine wpList_app (by rfl) _ _ _ rfl _ _ _ _ rfl rfl E2.out ?_; clear E2))
  have b9' : Below w.heap.size w W4 := b7.trans (b9.mono b7.size)
  rw [HM.out.2.2.1] at S9
  refine (same_yes _ _ _ _ _ _ bs _ _ W4 S9 (HR.out.below b9') Hb.out).mono ?_
  rintro e w4 ⟨rfl, rfl⟩
  have S8 := ((S8.below b9).more b9.size).take (k := (row M).length - 1) (by omega)
  rw [bv, ← List.map_take] at S8
  clear S9
  go_wp2_with fail
  have hc10 := takeRow_cut HM.out.1 HM.out.2.1 (k := (row M).length - 1) (by omega)
  refine (takes_is _ _ _ ((row M).take ((row M).length - 1)) _ W4 S8 (Nat.le_refl _) (fun x hx => row_bytes M x (List.mem_of_mem_take hx)) (by have := HM.out.2.2.2; omega) (by omega) (E := 10) (l := []) (rest := []) (takeRow_err (by rw [hc10]; simp)).1 hc10 (by rw [behindRow, hc10, if_neg (by simp)])).mono ?_
  rintro e w8 ⟨A10, c10, A11, c11, rfl, _, _, b10⟩
  have b11 : Below w.heap.size w w8 := b9'.trans (b10.mono b9'.size)
  clear b10 b9' b9 b7 S8 hsl hc10
  go_wp2_with fail
  refine (wakes_any _).mono ?_
  rintro e w9 ⟨rfl, b12⟩
  go_wp2_with fail
  go_ret
  exact ⟨rfl, b11.trans (b12.mono b11.size)⟩

set_option maxRecDepth 100000 in
set_option maxHeartbeats 800000 in
theorem only_AB (A : Option Addr) (n c : Nat) (bs : List Nat) (w : World) (hr : Rd w w.heap.size A n (bv bs)) (hb : ∀ x ∈ bs, x < 256) (hn : n ≤ 300) (hc : n ≤ c) (hE : (first bs).2.2 = 0) (hG0 : (takeRow bs).2.2 ≠ 0) :
    Calls Try.prog 4 #[.slice A n c] w fun e w' => e = .returned (.bool true) ∧ Below w.heap.size w w' := by
  have hl : bs.length = n := by have := hr.1; rwa [bv_length] at this
  obtain ⟨N, K, E, hF⟩ : ∃ N K E, first bs = (N, K, E) := ⟨_, _, _, rfl⟩
  obtain ⟨L, hL⟩ : ∃ L, behind bs = L := ⟨_, rfl⟩
  obtain ⟨U, M, G, hG⟩ : ∃ U M G, takeRow bs = (U, M, G) := ⟨_, _, _, rfl⟩
  obtain ⟨L2, hL2⟩ : ∃ L2, behindRow bs = L2 := ⟨_, rfl⟩
  have HT := Lib.hid (take_is A n c bs w.heap.size w hr (Nat.le_refl _) hb (by omega) hc (N := N) (E := E) (rest := L) (by rw [hF]) (by rw [hF]) hL)
  have HTR : Hid (∀ W : World, Below w.heap.size w W → Calls Try.prog 13 #[.slice A n c] W (RowIs M L2 G W)) := fun W hW =>
    takes_is A n c bs w.heap.size W (hr.below hW) hW.size hb (by omega) hc (by rw [hG]) (by rw [hG]) hL2
  have HR := Lib.hid hr
  have Hb := Lib.hid hb
  have HF := Lib.hid hF
  have HL := Lib.hid hL
  have Hl := Lib.hid hl
  have HG := Lib.hid hG
  have HL2 := Lib.hid hL2
  rw [hF] at hE
  rw [hG] at hG0
  simp only at hE hG0
  clear hr hb hF hL hl hG hL2
  have h1 := takeRow_err (bs := bs) (by rw [HG.out]; exact hG0)
  rw [HG.out] at h1
  obtain ⟨hM0, hG2⟩ := h1
  simp only at hM0 hG2
  have hL20 : L2 = [] := by rw [← HL2.out, behindRow, HG.out, if_neg hG0]
  subst hM0; subst hL20
  clear hG0
  rcases hG2 with rfl | rfl
  all_goals
    subst hE
    have hok := first_only Hb.out HF.out
    have hbeh : L = bs.drop K := by rw [← HL.out, behind, HF.out, if_pos rfl]
    have hcat : put N ++ L = bs := by rw [hbeh]; exact hok.1.symm
    have hN := hok.2.2
    have hlen : (put N).length + L.length = n := by rw [← Hl.out, ← hcat, List.length_append]
    have hp := put_pos N
    have hcut := first_cut hN (k := (put N).length - 1) (by omega)
    have hne0 : (((put N).length : Int) == 0) = false := by rw [beq_eq_false_iff_ne]; omega
    have hq : (put N).length ≤ 300 := by omega
    have HC := Lib.hid hcat
    have HN := Lib.hid hN
    have HLen := Lib.hid hlen
    have HCut := Lib.hid hcut
    clear hok hbeh hcat hN hcut hlen
    go_enter Try.func4, Try.ntmps4
    go_wp2_with fail
    refine (HT.out).mono ?_
    rintro e w1 ⟨A1, c1, rfl, hI1⟩
    have R1 := hI1.rd
    have b1 : Below w.heap.size w w1 := hI1.2.1
    clear hI1
    go_wp2_with fail
    refine (put_yes N HN.out w1.heap.size _ (Nat.le_refl _)).mono ?_
    rintro e w2 ⟨A2, c2, rfl, hI2⟩
    have R2 := hI2.rd
    have hcap := hI2.cap
    have R1 := (R1.below hI2.2.1).more hI2.2.1.size
    have b2 : Below w.heap.size w w2 := b1.trans (hI2.2.1.mono b1.size)
    obtain ⟨v1, W1, A3, c3, W2, e1, e2, R3, b3, _⟩ := run_two w2 w2.heap.size A2 A1 (put N).length c2 L.length c1 (put N) L R2 R1 (Nat.le_refl _) (by have := HLen.out; omega)
    have hsl := fun w => run_less A2 (put N).length c2 hp hcap w
    clear hI2 b1 R1
    have E1 := Lib.hid e1
    have E2 := Lib.hid e2
    clear e1 e2
    go_wp2_with (first | (at_builtin; refine wpList_app (by rfl) _ _ _ rfl _ _ _ _ rfl rfl E1.out ?_; clear E1) | (at_builtin; refine wpList_app (by rfl) _ _ _ rfl _ _ _ _ rfl rfl E2.out ?_; clear E2))
    have b3' : Below w.heap.size w W2 := b2.trans (b3.mono b2.size)
    rw [HC.out] at R3
    refine (same_yes _ _ _ _ _ _ bs _ _ W2 R3 (HR.out.below b3') Hb.out).mono ?_
    rintro e w4 ⟨rfl, rfl⟩
    have R2 := ((R2.below b3).more b3.size).take (k := (put N).length - 1) (by omega)
    rw [bv, ← List.map_take] at R2
    clear R3
    go_wp2_with fail
    refine (take_is _ _ _ ((put N).take ((put N).length - 1)) _ W2 R2 (Nat.le_refl _) put_all (by have := HLen.out; omega) (by omega) (N := 0) (E := 10) (rest := []) (by rw [HCut.out]) (by rw [HCut.out]) (by rw [behind, HCut.out, if_neg (by simp)])).mono ?_
    rintro e w5 ⟨A5, c5, rfl, hI5⟩
    have b5 : Below w.heap.size w w5 := b3'.trans (hI5.2.1.mono b3'.size)
    clear hI5 R2 b3' b2 b3 hsl hne0 hcap
    go_wp2_with fail
    refine (HTR.out _ b5).mono ?_
    rintro e w6 ⟨A6, c6, A7, c7, rfl, _, _, b6⟩
    have b6' : Below w.heap.size w w6 := b5.trans (b6.mono b5.size)
    clear b6 b5
    go_wp2_with fail
    refine (wakes_any _).mono ?_
    rintro e w9 ⟨rfl, b12⟩
    go_wp2_with fail
    go_ret
    exact ⟨rfl, b6'.trans (b12.mono b6'.size)⟩

set_option maxRecDepth 100000 in
set_option maxHeartbeats 800000 in
theorem only_BA (A : Option Addr) (n c : Nat) (bs : List Nat) (w : World) (hr : Rd w w.heap.size A n (bv bs)) (hb : ∀ x ∈ bs, x < 256) (hn : n ≤ 300) (hc : n ≤ c) (hE : (first bs).2.2 ≠ 0) (hG0 : (takeRow bs).2.2 = 0) :
    Calls Try.prog 4 #[.slice A n c] w fun e w' => e = .returned (.bool true) ∧ Below w.heap.size w w' := by
  have hl : bs.length = n := by have := hr.1; rwa [bv_length] at this
  obtain ⟨N, K, E, hF⟩ : ∃ N K E, first bs = (N, K, E) := ⟨_, _, _, rfl⟩
  obtain ⟨L, hL⟩ : ∃ L, behind bs = L := ⟨_, rfl⟩
  obtain ⟨U, M, G, hG⟩ : ∃ U M G, takeRow bs = (U, M, G) := ⟨_, _, _, rfl⟩
  obtain ⟨L2, hL2⟩ : ∃ L2, behindRow bs = L2 := ⟨_, rfl⟩
  have HT := Lib.hid (take_is A n c bs w.heap.size w hr (Nat.le_refl _) hb (by omega) hc (N := N) (E := E) (rest := L) (by rw [hF]) (by rw [hF]) hL)
  have HTR : Hid (∀ W : World, Below w.heap.size w W → Calls Try.prog 13 #[.slice A n c] W (RowIs M L2 G W)) := fun W hW =>
    takes_is A n c bs w.heap.size W (hr.below hW) hW.size hb (by omega) hc (by rw [hG]) (by rw [hG]) hL2
  have HR := Lib.hid hr
  have Hb := Lib.hid hb
  have HF := Lib.hid hF
  have HL := Lib.hid hL
  have Hl := Lib.hid hl
  have HG := Lib.hid hG
  have HL2 := Lib.hid hL2
  rw [hF] at hE
  rw [hG] at hG0
  simp only at hE hG0
  clear hr hb hF hL hl hG hL2
  subst hG0
  have hr1 := takeRow_only Hb.out (by rw [HG.out])
  rw [HG.out] at hr1
  have hbh : L2 = bs.drop U := by rw [← HL2.out, behindRow, HG.out, if_pos rfl]
  have HM : Hid (M.length ≤ 40 ∧ (∀ n ∈ M, n ≤ 1099511627776) ∧ row M ++ L2 = bs ∧ (row M).length + L2.length = n) := by
    refine ⟨hr1.2.1, hr1.2.2.1, by rw [hbh]; exact hr1.1.symm, ?_⟩
    have h1 : row M ++ L2 = bs := by rw [hbh]; exact hr1.1.symm
    rw [← Hl.out, ← h1, List.length_append]
  clear hr1 hbh
  have h0 := first_err (bs := bs) (by rw [HF.out]; exact hE)
  rw [HF.out] at h0
  obtain ⟨hN0, _, hE2⟩ := h0
  simp only at hN0 hE2
  have hL0 : L = [] := by rw [← HL.out, behind, HF.out, if_neg hE]
  subst hN0; subst hL0
  clear hE
  rcases hE2 with rfl | rfl
  all_goals
    go_enter Try.func4, Try.ntmps4
    go_wp2_with fail
    refine (HT.out).mono ?_
    rintro e w5 ⟨A1, c1, rfl, hI1⟩
    have b5 : Below w.heap.size w w5 := hI1.2.1
    clear hI1
    go_wp2_with fail
    refine (HTR.out _ b5).mono ?_
    rintro e w6 ⟨A6, c6, A7, c7, rfl, o6, o7, b6⟩
    have S6 := (Rd.of_own o6)
    have S7 := (Rd.of_own o7)
    have b6' : Below w.heap.size w w6 := b5.trans (b6.mono b5.size)
    clear o6 o7 b6 b5
    go_wp2_with fail
    refine (row_is S6 (Nat.le_refl _) HM.out.1 HM.out.2.1).mono ?_
    rintro e w7 ⟨A8, c8, rfl, hI8⟩
    have S8 := hI8.rd
    have hcap8 := hI8.cap
    have S7 := (S7.below hI8.2.1).more hI8.2.1.size
    have b7 : Below w.heap.size w w7 := b6'.trans (hI8.2.1.mono b6'.size)
    obtain ⟨v2, W3, A9, c9, W4, e1, e2, S9, b9, _⟩ := run_two w7 w7.heap.size A8 A7 (row M).length c8 L2.length c7 (row M) L2 S8 S7 (Nat.le_refl _) (by have := HM.out.2.2.2; omega)
    have hsl := fun w => run_less A8 (row M).length c8 (row_pos M) hcap8 w
    have hp8 := row_pos M
    have hq8 : (row M).length ≤ 300 := by have := HM.out.2.2.2; omega
    have hne8 : (((row M).length : Int) == 0) = false := by rw [beq_eq_false_iff_ne]; omega
    clear hI8 S6 S7 b6'
    have E1 := Lib.hid e1
    have E2 := Lib.hid e2
    clear e1 e2
    go_wp2_with (first | (at_builtin; refine wpList_app (by rfl) _ _ _ rfl _ _ _ _ rfl rfl E1.out ?_; clear E1) | (at_builtin; refine wpList_app (by rfl) _ _ _ rfl _ _ _ _ rfl rfl E2.out ?_; clear E2))
    have b9' : Below w.heap.size w W4 := b7.trans (b9.mono b7.size)
    rw [HM.out.2.2.1] at S9
    refine (same_yes _ _ _ _ _ _ bs _ _ W4 S9 (HR.out.below b9') Hb.out).mono ?_
    rintro e w4 ⟨rfl, rfl⟩
    have S8 := ((S8.below b9).more b9.size).take (k := (row M).length - 1) (by omega)
    rw [bv, ← List.map_take] at S8
    clear S9
    go_wp2_with fail
    have hc10 := takeRow_cut HM.out.1 HM.out.2.1 (k := (row M).length - 1) (by omega)
    refine (takes_is _ _ _ ((row M).take ((row M).length - 1)) _ W4 S8 (Nat.le_refl _) (fun x hx => row_bytes M x (List.mem_of_mem_take hx)) (by have := HM.out.2.2.2; omega) (by omega) (E := 10) (l := []) (rest := []) (takeRow_err (by rw [hc10]; simp)).1 hc10 (by rw [behindRow, hc10, if_neg (by simp)])).mono ?_
    rintro e w8 ⟨A10, c10, A11, c11, rfl, _, _, b10⟩
    have b11 : Below w.heap.size w w8 := b9'.trans (b10.mono b9'.size)
    clear b10 b9' b9 b7 S8 hsl hc10
    go_wp2_with fail
    refine (wakes_any _).mono ?_
    rintro e w9 ⟨rfl, b12⟩
    go_wp2_with fail
    go_ret
    exact ⟨rfl, b11.trans (b12.mono b11.size)⟩

set_option maxRecDepth 100000 in
set_option maxHeartbeats 800000 in
theorem only_BB (A : Option Addr) (n c : Nat) (bs : List Nat) (w : World) (hr : Rd w w.heap.size A n (bv bs)) (hb : ∀ x ∈ bs, x < 256) (hn : n ≤ 300) (hc : n ≤ c) (hE : (first bs).2.2 ≠ 0) (hG0 : (takeRow bs).2.2 ≠ 0) :
    Calls Try.prog 4 #[.slice A n c] w fun e w' => e = .returned (.bool true) ∧ Below w.heap.size w w' := by
  have hl : bs.length = n := by have := hr.1; rwa [bv_length] at this
  obtain ⟨N, K, E, hF⟩ : ∃ N K E, first bs = (N, K, E) := ⟨_, _, _, rfl⟩
  obtain ⟨L, hL⟩ : ∃ L, behind bs = L := ⟨_, rfl⟩
  obtain ⟨U, M, G, hG⟩ : ∃ U M G, takeRow bs = (U, M, G) := ⟨_, _, _, rfl⟩
  obtain ⟨L2, hL2⟩ : ∃ L2, behindRow bs = L2 := ⟨_, rfl⟩
  have HT := Lib.hid (take_is A n c bs w.heap.size w hr (Nat.le_refl _) hb (by omega) hc (N := N) (E := E) (rest := L) (by rw [hF]) (by rw [hF]) hL)
  have HTR : Hid (∀ W : World, Below w.heap.size w W → Calls Try.prog 13 #[.slice A n c] W (RowIs M L2 G W)) := fun W hW =>
    takes_is A n c bs w.heap.size W (hr.below hW) hW.size hb (by omega) hc (by rw [hG]) (by rw [hG]) hL2
  have HR := Lib.hid hr
  have Hb := Lib.hid hb
  have HF := Lib.hid hF
  have HL := Lib.hid hL
  have Hl := Lib.hid hl
  have HG := Lib.hid hG
  have HL2 := Lib.hid hL2
  rw [hF] at hE
  rw [hG] at hG0
  simp only at hE hG0
  clear hr hb hF hL hl hG hL2
  have h1 := takeRow_err (bs := bs) (by rw [HG.out]; exact hG0)
  rw [HG.out] at h1
  obtain ⟨hM0, hG2⟩ := h1
  simp only at hM0 hG2
  have hL20 : L2 = [] := by rw [← HL2.out, behindRow, HG.out, if_neg hG0]
  subst hM0; subst hL20
  clear hG0
  rcases hG2 with rfl | rfl
  all_goals
    have h0 := first_err (bs := bs) (by rw [HF.out]; exact hE)
    rw [HF.out] at h0
    obtain ⟨hN0, _, hE2⟩ := h0
    simp only at hN0 hE2
    have hL0 : L = [] := by rw [← HL.out, behind, HF.out, if_neg hE]
    subst hN0; subst hL0
    clear hE
    rcases hE2 with rfl | rfl
    all_goals
      go_enter Try.func4, Try.ntmps4
      go_wp2_with fail
      refine (HT.out).mono ?_
      rintro e w5 ⟨A1, c1, rfl, hI1⟩
      have b5 : Below w.heap.size w w5 := hI1.2.1
      clear hI1
      go_wp2_with fail
      refine (HTR.out _ b5).mono ?_
      rintro e w6 ⟨A6, c6, A7, c7, rfl, _, _, b6⟩
      have b6' : Below w.heap.size w w6 := b5.trans (b6.mono b5.size)
      clear b6 b5
      go_wp2_with fail
      refine (wakes_any _).mono ?_
      rintro e w9 ⟨rfl, b12⟩
      go_wp2_with fail
      go_ret
      exact ⟨rfl, b6'.trans (b12.mono b6'.size)⟩


theorem only_walk (A : Option Addr) (n c : Nat) (bs : List Nat) (w : World) (hr : Rd w w.heap.size A n (bv bs)) (hb : ∀ x ∈ bs, x < 256) (hc : n ≤ c) :
    Calls Try.prog 4 #[.slice A n c] w fun e w' => e = .returned (.bool true) ∧ Below w.heap.size w w' := by
  by_cases hn : n ≤ 300
  · by_cases hE : (first bs).2.2 = 0
    · by_cases hG : (takeRow bs).2.2 = 0
      · exact only_AA A n c bs w hr hb hn hc hE hG
      · exact only_AB A n c bs w hr hb hn hc hE hG
    · by_cases hG : (takeRow bs).2.2 = 0
      · exact only_BA A n c bs w hr hb hn hc hE hG
      · exact only_BB A n c bs w hr hb hn hc hE hG
  · exact only_out A n c w (by omega)

end Go.Proofs.Ytmgibphhlppfhaa
