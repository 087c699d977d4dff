/-
  The walks of 'Long', 'sumBytes', 'Put' of package frame, of slices.Grow and slices.Concat. Conditions: those that each theorem names.
-/
import Derived.Test.YtocleikdabclkaaFrMath
import Derived.Test.YtocleikdabclkaaRowsB
import Derived.Lib.AppendZerosOnto
namespace Go.Proofs.Ytocleikdabclkaa
open Go.RowKit Go.Shelf

/-- A literal slice is a row of the call's own. -/
theorem own_lit (w : World) (cs : List Value) (t : TypeId) (h : cs.length ≤ maxLen) : (w.alloc (.cells cs.toArray t)).ownsRow w.heap.size t 1 (.slice (some ⟨w.heap.size, 0, none⟩) cs.length cs.length) cs.length cs :=
  ⟨by simp, .inr ⟨w.heap.size, cs.length, cs.toArray, rfl, Nat.le_refl _, heap_alloc_new w _, Nat.le_refl _, h, by simp, by simp⟩⟩

def longOf (n : Int) : Int := if 0 ≤ n ∧ n ≤ 4000 then (frLen n.toNat : Int) else -1

set_option maxHeartbeats 400000 in
theorem frLong_yes (N : Nat) (hN : N ≤ 4000) (w : World) : Calls Try.prog 19 #[.int .i64 (N : Int)] w fun e w' => e = .returned (.int .i64 (frLen N : Int)) ∧ Below w.heap.size w w' := by
  have HL := Lib.hid (long_yes N (by omega) w)
  have h1 : ((put N).length : Int) + (N : Int) + 4 = ((frLen N : Nat) : Int) := by unfold frLen; omega
  have h2 := put_two hN
  go_enter Try.func19, Try.ntmps19
  go_wp2_with fail
  refine (HL.out).mono ?_
  rintro e w' ⟨rfl, hb, _⟩
  go_wp2_with fail
  go_ret
  exact ⟨rfl, hb⟩

set_option maxHeartbeats 400000 in
theorem frLong_no (n : Int) (hn : ¬ (0 ≤ n ∧ n ≤ 4000)) (w : World) : Calls Try.prog 19 #[.int .i64 n] w fun e w' => e = .returned (.int .i64 (-1)) ∧ Below w.heap.size w w' := by
  by_cases h0 : n < 0
  · go_enter Try.func19, Try.ntmps19
    go_wp2_with fail
    go_ret
    exact ⟨rfl, Below.refl _ _⟩
  · have h1 : 4000 < n := by omega
    go_enter Try.func19, Try.ntmps19
    go_wp2_with fail
    go_ret
    exact ⟨rfl, Below.refl _ _⟩

theorem frLong_any (n : Int) (w : World) : Calls Try.prog 19 #[.int .i64 n] w fun e w' => e = .returned (.int .i64 (longOf n)) ∧ Below w.heap.size w w' := by
  by_cases h : 0 ≤ n ∧ n ≤ 4000
  · obtain ⟨N, rfl⟩ := Int.eq_ofNat_of_zero_le h.1
    have := frLong_yes N (by omega) w
    rw [longOf, if_pos h]
    exact this
  · rw [longOf, if_neg h]
    exact frLong_no n h w

set_option maxRecDepth 100000 in
set_option maxHeartbeats 1000000 in
theorem sumBytes_any (A : Option Addr) (n c : Nat) (bs : List Nat) (B : Nat) (w : World) (hr : Rd w B A n (bv bs)) (hB : B ≤ w.heap.size) (hb : ∀ x ∈ bs, x < 256) (hn : n ≤ 140737488355328) :
    Calls Try.prog 23 #[.slice A n c] w fun e w' => ∃ A' c', e = .returned (.slice A' 4 c') ∧ w'.ownsRow w.heap.size 5 1 (.slice A' 4 c') 4 (bv (le4 (sumOf bs))) ∧ Below w.heap.size w w' := by
  have HS := Lib.hid (sum_any A n c bs B w hr hB hb hn)
  have hlt := sumOf_lt bs
  clear hr hb
  generalize sumOf bs = s at HS hlt ⊢
  go_enter Try.func23, Try.ntmps23
  go_wp2_with fail
  refine (HS.out).mono ?_
  rintro e w' ⟨rfl, hb⟩
  go_wp2_with fail
  go_ret
  refine ⟨_, _, rfl, ?_, hb.alloc hb.size _⟩
  have e4 : (s : Int) / 16777216 = (s : Int) / 16777216 % 256 := by omega
  rw [e4]
  exact own_weaker (own_lit w' [.int .u8 ((s : Int) % 256), .int .u8 ((s : Int) / 256 % 256), .int .u8 ((s : Int) / 65536 % 256), .int .u8 ((s : Int) / 16777216 % 256)] 5 (by simp [maxLen])) hb.size

/-- An append of noughts whose run is known. -/
theorem wpList_zeros {P : Program} {w : World} {ops : Array Oper} {rest : List Oper} {o : Oper} {a : Act} {Q : Exit → Act → World → Prop} (hw : Region.wanted o (yielded ops a.tmps) = true) (s x : Operand) (t u : TypeId)
    (ho : o.op = .call { callee := .builtin .append, args := #[s, x], argTypes := #[t, u] }) (vs vx v' : Value) (w' : World) (hs : a.eval s = vs) (hx : a.eval x = vx)
    (hr : (Builtin.append_ #[t, u] o.type #[vs, vx]).run P w = .ok v' w') (h : wpList P ops Q rest (a.put o.dst v') w') : wpList P ops Q (o :: rest) a w := by
  unfold wpList
  rw [if_pos hw]
  left
  unfold Oper.wp execOp
  simp only [ho, resolve, invoke, builtin, Sem.run_bind, Sem.run_pure, Result.andThen_ok, List.map_toArray, List.map_cons, List.map_nil, hs, hx, hr]
  exact h

set_option maxRecDepth 100000 in
set_option maxHeartbeats 1000000 in
theorem grow_nil (n : Nat) (h0 : 0 < n) (hn : n ≤ 100000) (w : World) :
    Calls Try.prog 33 #[.slice none 0 0, .int .i64 (n : Int)] w fun e w' => ∃ A' c', e = .returned (.slice A' 0 c') ∧ w'.ownsRow w.heap.size 5 1 (.slice A' 0 c') 0 [] ∧ Below w.heap.size w w' := by
  obtain ⟨i0, hi, hz0, hz1, hz2⟩ := info_parts info_u8
  have hr := Lib.run_append_grow_zeros (P := Try.prog) w 22 3 22 5 i0 (.int .u8 0) .i64 .i64 Try.underlying22 Try.underlying3 hi hz0 none 0 0 [] (run_firstCells_none w.drew i0.size 0 0 0) n h0 (by omega) (by omega) (by omega) (by rw [hz2]; omega) (by rw [hz2]; exact growslice_fits (by omega) (by omega))
  rw [Nat.zero_add] at hr
  obtain ⟨G, hG⟩ : ∃ G, G = grownCap w n 0 5 := ⟨_, rfl⟩
  have hG1 : n ≤ G := by rw [hG]; exact grownCap_ge w _ _ _
  have hG2 : G ≤ maxLen := by rw [hG]; exact grownCap_le_maxLen w _ _ _ (by unfold maxLen; omega)
  rw [← hG] at hr
  obtain ⟨W, hW⟩ : ∃ W, (w.drew.alloc (.cells (([] : List Value).toArray ++ Builtin.zeroCells (Value.int .u8 0).cells n ++ Builtin.zeroCells (Value.int .u8 0).cells (G - n)) 5)) = W := ⟨_, rfl⟩
  rw [hW] at hr
  have ho : W.ownsRow w.heap.size 5 1 (.slice (some ⟨w.heap.size, 0, none⟩) 0 G) 0 [] := by
    rw [← hW]
    exact World.ownsRow_made w.drew _ G (Nat.le_refl _) hG2 (by rw [Array.size_append, Array.size_append, size_zeroCells, size_zeroCells]; simp [Value.cells]; omega)
  have hb : Below w.heap.size w W := by rw [← hW]; exact ((Below.refl _ w).drew).alloc (Nat.le_refl _) _
  have HR := Lib.hid hr
  have HO := Lib.hid ho
  have HB := Lib.hid hb
  clear hr ho hb hW hG hi hz0 hz1 hz2
  unfold maxLen at hG2
  go_enter Try.func33, Try.ntmps33
  go_wp2_with (at_builtin; refine wpList_zeros (by rfl) _ _ _ _ rfl _ _ _ _ rfl rfl HR.out ?_; clear HR)
  go_ret
  exact ⟨_, _, rfl, HO.out, HB.out⟩

/-- A slice of the call's own, and what it reads as. -/
def OwnIs (n : Nat) (bs : List Nat) (w : World) (e : Ending) (w' : World) : Prop :=
  ∃ A c, e = .returned (.slice A n c) ∧ w'.ownsRow w.heap.size 5 1 (.slice A n c) n (bv bs) ∧ Below w.heap.size w w'

set_option maxRecDepth 100000 in
set_option maxHeartbeats 1000000 in
theorem concat_any (A : Option Addr) (n c : Nat) (l : List BE) (B : Nat) (w : World) (hr : RdB w B A n l) (hB : B ≤ w.heap.size) (hn : n ≤ 1000) (tot : Nat) (ht : (joinB l).length = tot) (h0 : 0 < tot) (hm : tot ≤ 100000) :
    Calls Try.prog 22 #[.slice A n c] w (OwnIs tot (joinB l) w) := by
  have HR := Lib.hid (hr.more hB)
  have hl := hr.1
  have HG := Lib.hid (grow_nil tot h0 hm w)
  have HT := Lib.hid ht
  clear hr hB ht
  go_enter Try.func22, Try.ntmps22
  go_wp2_with fail
  go_loop [3, 11] (fun x i => ∃ k : Nat, x = .int .i64 ((joinB (l.take k)).length : Int) ∧ i = .int .i64 (k : Int) ∧ k ≤ n) (fun _ i => n - (intOf i).toNat)
  case atStart => exact ⟨0, rfl, rfl, Nat.zero_le _⟩
  case round =>
    obtain ⟨k, rfl, rfl, hk⟩ := hrel
    rcases Nat.eq_or_lt_of_le hk with rfl | hlt
    · rw [List.take_of_length_le (by omega), HT.out]
      go_wp2_with fail
      refine (HG.out).mono ?_
      rintro e w1 ⟨A1, c1, rfl, o1, b1⟩
      have HO := Lib.hid o1
      have HB1 := Lib.hid b1
      clear o1 b1 HG
      go_wp2_with fail
      go_loopw [6, 27] (fun x i wr => ∃ (j m : Nat), i = .int .i64 (j : Int) ∧ j ≤ k ∧ (joinB (l.take j)).length = m ∧ wr.ownsRow w.heap.size 5 1 x m (bv (joinB (l.take j))) ∧ Below w.heap.size w wr) (fun _ i _ => k - (intOf i).toNat)
      case atStart => exact ⟨0, 0, rfl, Nat.zero_le _, rfl, HO.out, HB1.out⟩
      case round =>
        obtain ⟨j, m, rfl, hj, hjm, hown, hb⟩ := hrel
        have hmt : m ≤ tot := by rw [← hjm, ← HT.out]; exact joinB_le l j
        rcases Nat.eq_or_lt_of_le hj with rfl | hlt
        · rw [List.take_of_length_le (by omega)] at hown hjm
          obtain rfl : m = tot := by rw [← hjm]; exact HT.out
          obtain ⟨A3, c3, rfl⟩ := own_form hown
          go_wp2_with fail
          go_ret
          exact ⟨A3, c3, rfl, hown, hb⟩
        · obtain ⟨b, off, rfl, hbl, hc⟩ := HR.out.2.1 (by omega)
          obtain ⟨x, hx⟩ : ∃ x, l[j]? = some x := ⟨_, List.getElem?_eq_getElem (by omega)⟩
          have hcell := (hb.cell (p := ⟨b, off + j, none⟩) hbl).trans (hc j x hx)
          have hxr := (HR.out.2.2 x (List.mem_of_getElem? hx)).1.below hb
          have hxl : x.bs.length = x.n := by have := hxr.1; rwa [bv_length] at this
          have hj1 := joinB_take hx
          have hm1 : (joinB (l.take (j + 1))).length = m + x.n := by rw [hj1, List.length_append, hjm, hxl]
          have hm2 : m + x.n ≤ tot := by rw [← hm1, ← HT.out]; exact joinB_le l (j + 1)
          obtain ⟨v2, w2, hrun, hown2, hg2⟩ := run_app wr w.heap.size _ m _ hown w.heap.size x.A x.n x.c x.bs hxr (by omega) hb.size
          rw [← bv_append, ← hj1] at hown2
          have HO2 := Lib.hid hown2
          have HB2 := Lib.hid (hb.trans (below_row hown hg2 hb.size))
          have HM1 := Lib.hid hm1
          have HRun := Lib.hid hrun
          have hlt2 : (j : Int) < (k : Int) := by omega
          clear hown hb hxr hj1 hm1 hown2 hg2 hrun hc hx hxl hjm
          go_wp2_with (at_builtin; refine wpList_app (by rfl) _ _ _ rfl _ _ _ _ rfl rfl HRun.out ?_; clear HRun)
          go_roundw
          case rel => exact ⟨j + 1, m + x.n, by go_num, by omega, HM1.out, HO2.out, HB2.out⟩
          case measure => simp [intOf]; omega
    · obtain ⟨b, off, rfl, hbl, hc⟩ := HR.out.2.1 (by omega)
      obtain ⟨x, hx⟩ : ∃ x, l[k]? = some x := ⟨_, List.getElem?_eq_getElem (by omega)⟩
      have hcell := hc k x hx
      have hxl : x.bs.length = x.n := by have := (HR.out.2.2 x (List.mem_of_getElem? hx)).1.1; rwa [bv_length] at this
      obtain ⟨m, hm0⟩ : ∃ m, (joinB (l.take k)).length = m := ⟨_, rfl⟩
      have hm1 : (joinB (l.take (k + 1))).length = m + x.n := by rw [joinB_take hx, List.length_append, hm0, hxl]
      have hm2 : m + x.n ≤ tot := by rw [← hm1, ← HT.out]; exact joinB_le l (k + 1)
      have HM1 := Lib.hid hm1
      have hlt2 : (k : Int) < (n : Int) := by omega
      rw [hm0]
      clear hc hx hxl hm1
      go_wp2_with fail
      go_round
      case rel => exact ⟨k + 1, by rw [HM1.out]; go_num, by go_num, by omega⟩
      case measure => simp [intOf]; omega

/-- The payload's frame, of the call's own. -/
def FrOk (p : List Nat) (w : World) (e : Ending) (w' : World) : Prop :=
  ∃ A c, e = .returned (.tuple #[.slice A (frLen p.length) c, .int .i64 0]) ∧ w'.ownsRow w.heap.size 5 1 (.slice A (frLen p.length) c) (frLen p.length) (bv (fr p)) ∧ Below w.heap.size w w'

set_option maxRecDepth 100000 in
set_option maxHeartbeats 1000000 in
theorem frPut_any (A : Option Addr) (n c : Nat) (bs : List Nat) (B : Nat) (w : World) (hr : Rd w B A n (bv bs)) (hB : B ≤ w.heap.size) (hb : ∀ x ∈ bs, x < 256) (hn : n ≤ 4000) (hc : n ≤ c) (hm : c ≤ maxLen) :
    Calls Try.prog 9 #[.slice A n c] w (FrOk bs w) := by
  have hl : bs.length = n := by have := hr.1; rwa [bv_length] at this
  have HP := Lib.hid (put_yes n (by omega) w.heap.size w (Nat.le_refl _))
  have HS := Lib.hid (fun (W : World) (hW : Below w.heap.size w W) => sumBytes_any A n c bs w.heap.size W ((hr.more hB).below hW) hW.size hb (by omega))
  have HR := Lib.hid (hr.more hB)
  have HBy := Lib.hid hb
  have HL := Lib.hid hl
  have HC := Lib.hid hc
  have HM := Lib.hid hm
  clear hr hB hb hl hc hm
  go_enter Try.func9, Try.ntmps9
  go_wp2_with fail
  refine (HP.out).mono ?_
  rintro e w1 ⟨A1, c1, rfl, hI⟩
  have HI := Lib.hid hI
  clear hI HP
  go_wp2_with fail
  refine (HS.out _ HI.out.2.1).mono ?_
  rintro e w2 ⟨A2, c2, rfl, o2, b2⟩
  have B2 := Lib.hid (HI.out.2.1.trans (b2.mono HI.out.2.2.2))
  have O1 := Lib.hid (own_under HI.out.1 b2)
  have O2 := Lib.hid o2
  clear o2 b2 HS
  go_wp2_with fail
  have HRB : RdB (w2.alloc (.cells #[.slice A1 (put n).length c1, .slice A n c, .slice A2 4 c2] 22)) (w2.heap.size + 1) (some ⟨w2.heap.size, 0, none⟩) 3 [⟨A1, (put n).length, c1, put n⟩, ⟨A, n, c, bs⟩, ⟨A2, 4, c2, le4 (sumOf bs)⟩] := by
    refine ⟨rfl, fun _ => ⟨_, _, rfl, Nat.lt_succ_self _, fun j x hx => ?_⟩, ?_⟩
    · rw [Nat.zero_add, cell_new]
      match j, hx with
      | 0, hx => simp at hx; subst hx; rfl
      | 1, hx => simp at hx; subst hx; rfl
      | 2, hx => simp at hx; subst hx; rfl
      | j + 3, hx => simp at hx
    · intro x hx
      simp only [List.mem_cons, List.not_mem_nil, or_false] at hx
      rcases hx with rfl | rfl | rfl
      · exact ⟨((Rd.of_own O1.out).alloc (Nat.le_refl _) _).more (Nat.le_succ _), put_bytes _, own_cap O1.out, own_capm O1.out⟩
      · exact ⟨((HR.out.below B2.out).more B2.out.size |>.alloc (Nat.le_refl _) _).more (Nat.le_succ _), HBy.out, HC.out, HM.out⟩
      · exact ⟨((Rd.of_own O2.out).alloc (Nat.le_refl _) _).more (Nat.le_succ _), le4_bytes _, own_cap O2.out, own_capm O2.out⟩
  have hj : joinB [⟨A1, (put n).length, c1, put n⟩, ⟨A, n, c, bs⟩, ⟨A2, 4, c2, le4 (sumOf bs)⟩] = fr bs := by simp [joinB, fr, HL.out]
  have h2 := put_two hn
  have h3 := frLen_pos n
  refine (concat_any _ 3 3 _ _ _ HRB (by simp) (by omega) (frLen n) (by rw [hj, fr_length, HL.out]) (by omega) (by unfold frLen; omega)).mono ?_
  rintro e w3 ⟨A3, c3, rfl, o3, b3⟩
  rw [hj] at o3
  have HO3 := Lib.hid o3
  have HB3 := Lib.hid b3
  clear o3 b3 HRB hj
  go_wp2_with fail
  go_ret2
  have b4 := (B2.out.alloc B2.out.size (.cells #[.slice A1 (put n).length c1, .slice A n c, .slice A2 4 c2] 22))
  refine ⟨A3, c3, by rw [HL.out]; rfl, ?_, b4.trans (HB3.out.mono b4.size)⟩
  rw [HL.out]
  exact own_weaker HO3.out b4.size

end Go.Proofs.Ytocleikdabclkaa
