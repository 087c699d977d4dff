/-
  Texts that the walks of the statements over logs lean on, joined (LogFr, LogTog, FrFrames, RowsOwn, FrAllReg, FrAll). Conditions: those that each theorem names.
-/
import Derived.Test.YtbkfpghpfaemeaaJ2
import Derived.Test.YtbkfpghpfaemeaaJ3
import Derived.Test.YtbkfpghpfaemeaaJ4
import Derived.Test.YtbkfpghpfaemeaaJ5
import Derived.Test.YtbkfpghpfaemeaaJ6

/-
  The walks of 'framed', 'frames' of package log, and of the iterator that it hands back: frame by frame. Conditions: those that each theorem names.
-/
namespace Go.Proofs.Ytbkfpghpfaemeaa
open Go.RowKit Go.Shelf
attribute [local go_sem] Oper.semAt_some

theorem own_max {w : World} {base n c : Nat} {e : TypeId} {A : Option Addr} {xs : List Value} (h : w.ownsRow base e 1 (.slice A n c) n xs) : c ≤ maxLen := by
  rcases h.2 with ⟨h1, _⟩ | ⟨g, cap, cur, h1, _, _, _, h2, _⟩
  · injection h1 with _ _ h1; rw [h1]; exact Nat.zero_le _
  · injection h1 with _ _ h1; rw [h1]; exact h2

/-- What the frame of a record is; and if there is none. -/
def FOk (base : Nat) (r : PR) (A : Option Addr) (n c : Nat) (er : Int) (w : World) : Prop :=
  (okR r ∧ er = 0 ∧ n = (lfr r).length ∧ w.ownsRow base 5 1 (.slice A n c) n (bv (lfr r))) ∨ (¬ okR r ∧ er = 2 ∧ n = 0)
theorem FOk.weaker {base base' n c : Nat} {r : PR} {A : Option Addr} {er : Int} {w : World} (h : FOk base' r A n c er w) (hb : base ≤ base') : FOk base r A n c er w := by
  rcases h with ⟨h1, h2, h3, h4⟩ | h
  · exact .inl ⟨h1, h2, h3, own_weaker h4 hb⟩
  · exact .inr h
theorem FOk.under {base n c : Nat} {r : PR} {A : Option Addr} {er : Int} {w w' : World} (h : FOk base r A n c er w) (hb : Below w.heap.size w w') : FOk base r A n c er w' := by
  rcases h with ⟨h1, h2, h3, h4⟩ | h
  · exact .inl ⟨h1, h2, h3, own_under h4 hb⟩
  · exact .inr h
theorem FOk.turn {base n c : Nat} {r : PR} {A : Option Addr} {er : Int} {w w' : World} {row : Option Nat} (h : FOk base r A n c er w) (hg : w.grownBy w' row) (hr : ∀ r, row = some r → ∃ o : Obj, w.heap[r]? = some o ∧ o.isCells = false) : FOk base r A n c er w' := by
  rcases h with ⟨h1, h2, h3, h4⟩ | h
  · exact .inl ⟨h1, h2, h3, own_turn h4 hg hr⟩
  · exact .inr h
theorem FOk.le {base n c : Nat} {r : PR} {A : Option Addr} {er : Int} {w : World} (h : FOk base r A n c er w) : n ≤ 306 := by
  rcases h with ⟨h1, _, h3, _⟩ | ⟨_, _, h⟩
  · rw [h3]; exact lfr_len h1
  · omega
def FramedIs (r : PR) (w : World) (e : Ending) (w' : World) : Prop :=
  ∃ A n c er, e = .returned (.tuple #[.slice A n c, .int .i64 er]) ∧ FOk w.heap.size r A n c er w' ∧ Below w.heap.size w w'

set_option maxHeartbeats 400000 in
theorem framed_any (k : Nat) (hk : k < 256) (A : Option Addr) (n c : Nat) (zs : List Int) (B : Nat) (w : World) (hr : Rd w B A n (iv zs)) (hB : B ≤ w.heap.size) :
    Calls Try.prog 56 #[.agg #[.int .u8 (k : Int), .slice A n c]] w (FramedIs (k, zs) w) := by
  have hb : Below w.heap.size w (w.alloc (.cells #[.int .u8 (k : Int), .slice A n c] 43)) := (Below.refl _ w).alloc (Nat.le_refl _) _
  have HB := Lib.hid hb
  have HR := Lib.hid ((hr.more hB).below hb)
  clear hr hB hb
  by_cases h : mayB k zs = true
  · have HP := Lib.hid (putRec_yes k A n c zs w.heap.size _ HR.out HB.out.size h)
    have HM := Lib.hid h
    clear h
    go_enter Try.func56, Try.ntmps56
    go_wp2_with fail
    refine (HP.out).mono ?_
    rintro e w1 ⟨A1, c1, rfl, hI⟩
    have hb1 : Below w.heap.size w w1 := HB.out.trans (hI.2.1.mono HB.out.size)
    have HF := Lib.hid (frPut_any A1 (recB k zs).length c1 (recB k zs) w1.heap.size w1 (Rd.of_own hI.1) (Nat.le_refl _) (recB_bytes k zs) (pl_len (r := (k, zs)) HM.out) (own_cap hI.1) (own_max hI.1))
    have HB1 := Lib.hid hb1
    clear hI hb1 HP
    go_wp2_with fail
    refine (HF.out).mono ?_
    rintro e w2 ⟨A2, c2, rfl, o2, b2⟩
    have HO2 := Lib.hid o2
    have HB2 := Lib.hid (HB1.out.trans (b2.mono HB1.out.size))
    clear o2 b2 HF
    go_wp2_with fail
    go_ret2
    refine ⟨A2, _, c2, 0, rfl, .inl ⟨HM.out, rfl, ?_, own_weaker HO2.out HB1.out.size⟩, HB2.out⟩
    unfold lfr pl; rw [fr_length]
  · have hf : mayB k zs = false := by simpa using h
    have HP := Lib.hid (putRec_no k hk A n c zs w.heap.size _ HR.out HB.out.size hf)
    have HM := Lib.hid h
    clear h hf
    go_enter Try.func56, Try.ntmps56
    go_wp2_with fail
    refine (HP.out).mono ?_
    rintro e w1 ⟨rfl, b1⟩
    have HB1 := Lib.hid (HB.out.trans (b1.mono HB.out.size))
    clear b1
    go_wp2_with fail
    go_ret2
    exact ⟨none, 0, 0, 2, rfl, .inr ⟨HM.out, rfl, rfl⟩, HB1.out⟩

set_option maxHeartbeats 400000 in
theorem logFrames_any (A : Option Addr) (n c : Nat) (w : World) :
    Calls Try.prog 38 #[.slice A n c] w fun e w' => e = .returned (.func (.func 55) #[] #[.pointer (some ⟨w.heap.size, 0, none⟩)]) ∧ w' = w.alloc (.cells #[.slice A n c] 25) := by
  go_enter Try.func38, Try.ntmps38
  go_wp2
  go_ret
  exact ⟨rfl, rfl⟩

/-- What is handed over: a frame's slice, an error. -/
structure LF where
  A : Option Addr
  n : Nat
  c : Nat
  er : Int
def LF.vals (x : LF) : Array Value := #[.slice x.A x.n x.c, .int .i64 x.er]
def LF.Ok (base : Nat) (L : List PR) (pre : List LF) (x : LF) (W : World) : Prop := ∃ r, L[pre.length]? = some r ∧ FOk base r x.A x.n x.c x.er W

/-- Where the iterator stands. -/
structure LFInv (w0 : World) (n₀ Bs : Nat) (A : Option Addr) (n c : Nat) (J : List LF → World → Prop) (pre : List LF) (W : World) : Prop where
  le : pre.length ≤ n
  box : W.cell? ⟨Bs, 0, none⟩ = some (.slice A n c)
  below : Below n₀ w0 W
  inv : J pre W
def LFAt (l : Nat) (w0 : World) (n₀ Bs : Nat) (A : Option Addr) (n c : Nat) (J : List LF → World → Prop) (W0 : World) (a' : Act) (w' : World) : Prop :=
  W0.heap.size ≤ w'.heap.size ∧ ∃ (pre : List LF) (u4 u5 u6 u7 u8 u9 u10 u11 u12 u13 u14 u15 u16 u17 u18 u19 u20 u21 : Value), a' = { tmps := #[.func (.yield l) #[] #[], .pointer (some ⟨Bs, 0, none⟩), undef, .int .i64 (pre.length : Int), u4, u5, u6, u7, u8, u9, u10, u11, u12, u13, u14, u15, u16, u17, u18, u19, u20, u21], defers := [] } ∧ LFInv w0 n₀ Bs A n c J pre w'

set_option maxRecDepth 100000 in
set_option maxHeartbeats 1000000 in
theorem logFrames1_in (m l Bs n₀ : Nat) (w0 : World) (A : Option Addr) (n c : Nat) (es : List RE) (hn : n ≤ 1000000) (hr : RdR w0 n₀ A n es) (J : List LF → World → Prop) (Jx : World → Prop)
    (W0 : World) (hJ : AbidesFrom W0.heap.size J)
    (hY : ∀ pre x W, J pre W → LF.Ok n₀ (recsOf es) pre x W → YieldAt Fence.wide (m - 1) Try.prog l x.vals W fun e W' =>
      (e = .returned (.bool true) ∧ J (pre ++ [x]) W' ∧ KpB n₀ Bs W W') ∨ (e = .returned (.bool false) ∧ Jx W'))
    (hBs : W0.cell? ⟨Bs, 0, none⟩ = some (.slice A n c)) (hBsl : Bs < W0.heap.size) (hn₀ : n₀ ≤ W0.heap.size) (hb0 : Below n₀ w0 W0) (h0 : J [] W0) :
    CallsIn Fence.wide m Try.prog 55 #[.func (.yield l) #[] #[], .pointer (some ⟨Bs, 0, none⟩)] W0 fun e W' => (∃ v, e = .returned v) ∧
      ((∃ ys : List LF, ys.length = (recsOf es).length ∧ J ys W') ∨ Jx W') := by
  have HY := Lib.hid hY
  have HJ := Lib.hid hJ
  have HR := Lib.hid hr
  have hl : (recsOf es).length = n := by rw [recsOf, List.length_map]; exact hr.1
  have HL := Lib.hid hl
  have H0 : Hid (LFInv w0 n₀ Bs A n c J [] W0) := ⟨Nat.zero_le _, hBs, hb0, h0⟩
  have Hs := Lib.hid (show Bs < W0.heap.size from hBsl)
  have Hn := Lib.hid hn₀
  clear hY hJ hr h0 hBs hn₀ hBsl hl hb0
  refine callsIn_of_wp Try.func55 rfl trivial ?_ rfl
  simp only [Try.ntmps55, List.size_toArray, List.length_cons, List.length_nil, Nat.reduceAdd, Nat.reduceSub, Array.replicate_succ, Array.replicate_zero, List.push_toArray, List.append_toArray, List.nil_append, List.cons_append]
  gi_wp2_with fail
  refine wpIn_wide.2 (wp_scope_back_behind 0 (LFAt l w0 n₀ Bs A n c J W0)
    (fun a' _ => n - (intOf (a'.tmps.getD 3 undef)).toNat) rfl ?ahead (fun a' w' hJ' => wpIn_wide (n := m).1 ?pass))
  case ahead =>
    go_wp2_with fail
    exact ⟨Nat.le_refl _, [], _, _, _, _, _, _, _, _, _, _, _, _, _, _, _, _, _, _, rfl, H0.out⟩
  case pass =>
    obtain ⟨hsz, pre, u4, u5, u6, u7, u8, u9, u10, u11, u12, u13, u14, u15, u16, u17, u18, u19, u20, u21, rfl, hI⟩ := hJ'
    have hle := hI.le
    have hBox := hI.box
    have HI := Lib.hid hI
    clear hI
    by_cases hlt : pre.length < n
    · have hjl : pre.length < es.length := by rw [HR.out.1]; exact hlt
      obtain ⟨x, hx⟩ : ∃ x, es[pre.length]? = some x := ⟨_, List.getElem?_eq_getElem hjl⟩
      obtain ⟨b, off, rfl, hblt, hc⟩ := (HR.out.below HI.out.below).2.1 (by omega)
      obtain ⟨h1, h2⟩ := hc pre.length x hx
      obtain ⟨hk, hrx⟩ := (HR.out.below HI.out.below).2.2 x (List.mem_of_getElem? hx)
      have hne : ((pre.length : Int) == (n : Int)) = false := by simp; omega
      have hiL : (pre.length : Int) < (n : Int) := by omega
      have hX : (recsOf es)[pre.length]? = some (x.k, x.zs) := by rw [recsOf, List.getElem?_map, hx]; rfl
      have HX := Lib.hid hX
      have HF := Lib.hid (framed_any x.k hk x.A x.n x.c x.zs n₀ w' hrx (by have := Hn.out; omega))
      cases x with
      | mk k A' n' c' zs' =>
      simp only at h1 h2 HX HF
      clear hc hx hrx hjl hX
      gi_wp2_with fail
      refine ⟨trivial, fun h => (by cases h), (callsIn_wide.2 HF.out).mono ?_⟩
      rintro e w1 ⟨A1, n1, c1, er, rfl, hF1, hb1⟩
      clear HF
      have hJ2 : J pre w1 := HJ.out pre w' w1 none HI.out.inv ⟨hb1.os, hb1.tape, hb1.output, hb1.size, fun i hi _ => hb1.block i hi⟩ (fun r e => by cases e)
      obtain ⟨fn, tmps, assign, body, hy, hRR⟩ := HY.out pre ⟨A1, n1, c1, er⟩ w1 hJ2 ⟨_, HX.out, hF1.weaker (by have := Hn.out; omega)⟩
      dsimp only [LF.vals] at hy
      have HRR := Lib.hid hRR
      have HB1 := Lib.hid hb1
      clear hRR hb1 hJ2 hF1
      gi_wp2_with fail
      refine ⟨fun h => (by cases h), HRR.out.mono ?_⟩
      clear hy
      rintro e W3 (⟨rfl, hJ3, hk3⟩ | ⟨rfl, hJx3⟩)
      · have HJ3 := Lib.hid hJ3
        have HK3 := Lib.hid hk3
        clear hJ3 hk3
        gi_wp2_with fail
        refine wpIn_goto ?_
        have hs2 := HB1.out.size
        have hs3 := HK3.out.1.size
        have hnn := Hn.out
        have hBs' : Bs < w'.heap.size := by have := Hs.out; omega
        have hb3 : W3.cell? ⟨Bs, 0, none⟩ = some (.slice (some ⟨b, off, none⟩) n c) := ((World.cell?_of_block (a := ⟨Bs, 0, none⟩) HK3.out.2).trans (HB1.out.cell (p := ⟨Bs, 0, none⟩) hBs')).trans HI.out.box
        have hbel : Below n₀ w0 W3 := (HI.out.below.trans (HB1.out.mono (by omega))).trans HK3.out.1
        have e1 : (pre.length : Int) + 1 = ((pre ++ [(⟨A1, n1, c1, er⟩ : LF)]).length : Int) := by rw [List.length_append, List.length_singleton]; omega
        refine ⟨rfl, ⟨by omega, pre ++ [⟨A1, n1, c1, er⟩], _, _, _, _, _, _, _, _, _, _, _, _, _, _, _, _, _, _, by rw [← e1], ⟨by rw [List.length_append, List.length_singleton]; omega, hb3, hbel, HJ3.out⟩⟩, ?_⟩
        simp [intOf]; omega
      · have HJx := Lib.hid hJx3
        clear hJx3
        gi_wp2_with fail
        simp only [Exit.jump]
        refine bodyPost_ret (results_none rfl _ _ _) rfl ?_
        exact ⟨⟨_, rfl⟩, .inr HJx.out⟩
    · have hEq : pre.length = n := by omega
      have hne : ((pre.length : Int) == (n : Int)) = true := by simp; omega
      have HE := Lib.hid hEq
      clear hEq
      gi_wp2_with fail
      refine ⟨trivial, ?_⟩
      gi_wp2_with fail
      refine ⟨fun _ h => (by cases h), ?_⟩
      gi_wp2_with fail
      simp only [Exit.jump]
      refine bodyPost_ret (results_none rfl _ _ _) rfl ?_
      exact ⟨⟨_, rfl⟩, .inl ⟨pre, by rw [HE.out, HL.out], HI.out.inv⟩⟩

/-- The iterator hands over the frames of the records, one by one. -/
theorem logFrames_mem (m Bs n₀ : Nat) (w0 : World) (A : Option Addr) (n c : Nat) (es : List RE) (hn : n ≤ 1000000) (hr : RdR w0 n₀ A n es) (w : World) (hBl : Bs < w.heap.size) (hn₀ : n₀ ≤ w.heap.size) (hb0 : Below n₀ w0 w)
    (hBn : w.cell? ⟨Bs, 0, none⟩ = some (.slice A n c)) :
    SeqMem m Try.prog 55 #[.pointer (some ⟨Bs, 0, none⟩)] LF.vals (LF.Ok n₀ (recsOf es)) (KpB n₀ Bs) (fun ys => ys.length = (recsOf es).length) w := fun l J Jx W hW hJ hY h0 =>
  logFrames1_in m l Bs n₀ w0 A n c es hn hr J Jx W hJ hY ((hW.cell (p := ⟨Bs, 0, none⟩) hBl).trans hBn) (by have := hW.size; omega) (by have := hW.size; omega) (hb0.trans (hW.mono hn₀)) h0

end Go.Proofs.Ytbkfpghpfaemeaa

/-
  The walks of 'together' and 'Long' of package log. Conditions: those that each theorem names.
-/
namespace Go.Proofs.Ytbkfpghpfaemeaa
open Go.RowKit Go.Shelf
attribute [local go_sem] Oper.semAt_some

/-- An append whose run is known, inside a round. -/
theorem wpListIn_app {F : Fence} {m : Nat} {P : Program} {w : World} {ops : Array Oper} {rest : List Oper} {o : Oper} {a : Act} {Q : Exit → Act → World → Prop} (hg : o.guard = none) (s x : Operand) (t : TypeId)
    (ho : o.op = .call { callee := .builtin .append, args := #[s, x], argTypes := #[t, t] }) (vs vx v' : Value) (w' : World) (hs : a.eval s = vs) (hx : a.eval x = vx)
    (hr : (Builtin.append_ #[t, t] o.type #[vs, vx]).run P w = .ok v' w') (h : wpListIn F m P ops Q rest (a.put o.dst v') w') : wpListIn F m P ops Q (o :: rest) a w := by
  refine wpListIn_plain hg fun K hK => ?_
  unfold Oper.wpIn
  refine ⟨by simp [Oper.about, ho, resolve, Target.leads, Sem.run_pure], ?_⟩
  rw [Oper.semAt_plain F _ _ (by rw [ho]; intro c hc; cases hc)]
  simp only [execOp, ho, resolve, invoke, builtin, Sem.run_bind, Sem.run_pure, Result.andThen_ok, List.map_toArray, List.map_cons, List.map_nil, hs, hx, hr]
  exact hK _ _ h

def allOk (L : List PR) : Prop := ∀ r ∈ L, okR r
theorem allOk_take {L : List PR} {j : Nat} {r : PR} (hr : L[j]? = some r) (h : allOk (L.take j)) (hk : okR r) : allOk (L.take (j + 1)) := by
  have hjl : j < L.length := (List.getElem?_eq_some_iff.1 hr).1
  rw [List.take_succ_eq_append_getElem hjl]
  rw [List.getElem?_eq_getElem hjl] at hr
  intro s hs
  rcases List.mem_append.1 hs with hs | hs
  · exact h s hs
  · simp only [List.mem_singleton] at hs
    rw [hs, Option.some.inj hr]; exact hk
theorem not_allOk {L : List PR} {j : Nat} {r : PR} (hr : L[j]? = some r) (h : ¬ okR r) : ¬ allOk L := fun hL => h (hL r (List.mem_of_getElem? hr))
theorem lbytes_take {L : List PR} {j : Nat} {r : PR} (hr : L[j]? = some r) : lbytes (L.take (j + 1)) = lbytes (L.take j) ++ lfr r := by
  have hjl : j < L.length := (List.getElem?_eq_some_iff.1 hr).1
  rw [List.take_succ_eq_append_getElem hjl]
  rw [List.getElem?_eq_getElem hjl] at hr
  rw [lbytes_app, lbytes_one, Option.some.inj hr]

/-- The bytes of records, of the call's own; and if one of them may not be. -/
def TOk (base : Nat) (L : List PR) (A : Option Addr) (n c : Nat) (er : Int) (w : World) : Prop :=
  (allOk L ∧ er = 0 ∧ n = (lbytes L).length ∧ w.ownsRow base 5 1 (.slice A n c) n (bv (lbytes L))) ∨ (¬ allOk L ∧ er = 2 ∧ A = none ∧ n = 0 ∧ c = 0)
def TogIs (L : List PR) (w : World) (e : Ending) (w' : World) : Prop :=
  ∃ A n c er, e = .returned (.tuple #[.slice A n c, .int .i64 er]) ∧ TOk w.heap.size L A n c er w' ∧ Below w.heap.size w w'

/-- What holds between two rounds. -/
structure TogAt (w : World) (L : List PR) (pre : List LF) (W : World) : Prop where
  ok : allOk (L.take pre.length)
  row : ∃ v, Whole W w.heap.size 22 #[v] ∧ W.ownsRow (w.heap.size + 2) 5 1 v (lbytes (L.take pre.length)).length (bv (lbytes (L.take pre.length)))
  below : Below w.heap.size w W
  size : w.heap.size + 2 ≤ W.heap.size
theorem togAt_own (w : World) (L : List PR) (B : Nat) (hB : w.heap.size ≤ B) : OwnFrom B (TogAt w L) := by
  intro pre W1 W2 row h hg hr
  have hr' : ∀ r, row = some r → ∃ o : Obj, W1.heap[r]? = some o ∧ o.isCells = false := fun r e => (hr r e).2
  obtain ⟨v, h1, h2⟩ := h.row
  exact ⟨h.ok, ⟨v, h1.turn hg hr', own_turn h2 hg hr'⟩, h.below.grown hg h.below.size (fun k e => by have := (hr k e).1; omega), Nat.le_trans h.size hg.size⟩

/-- Where the run stands at the label. -/
def WrongAt (w : World) (L : List PR) (W : World) : Prop := ¬ allOk L ∧ Below w.heap.size w W
def TogTail (w : World) (L : List PR) (a' : Act) (W : World) : Prop :=
  ∃ (D : Nat) (u0 u1 u2 u3 u4 u5 u6 u7 u8 u9 u10 u11 u12 u13 u14 u15 u16 : Value), a' = { tmps := #[u0, u1, u2, u3, u4, u5, u6, u7, u8, u9, u10, u11, u12, u13, u14, u15, u16], defers := [{ target := .collected D, args := #[] }] } ∧ w.heap.size ≤ D ∧ W.heap[D]? = some (.deferred (some [])) ∧ WrongAt w L W
theorem wrongAt_own (w : World) (L : List PR) (B : Nat) (hB : w.heap.size ≤ B) : OwnFrom B (fun (c : Code) W => c = .goto 0 ∧ WrongAt w L W) := by
  intro c W1 W2 row h hg hr
  exact ⟨h.1, h.2.1, h.2.2.grown hg h.2.2.size (fun k e => by have := (hr k e).1; omega)⟩

set_option maxRecDepth 100000 in
set_option maxHeartbeats 1000000 in
theorem together_any (A : Option Addr) (n c : Nat) (es : List RE) (L : List PR) (hL : recsOf es = L) (B : Nat) (w : World) (hr : RdR w B A n es) (hB : B ≤ w.heap.size) (hn : n ≤ 1000) :
    Calls Try.prog 32 #[.slice A n c] w (TogIs L w) := by
  have hl : L.length = n := by rw [← hL, recsOf, List.length_map]; exact hr.1
  have HR := Lib.hid (hr.more hB)
  have HL := Lib.hid hl
  have HE := Lib.hid hL
  clear hr hB hl hL
  refine (callsIn_wide (n := 6)).1 ?_
  refine callsIn_of_wp_marks Try.func32 rfl trivial ?_ rfl
  simp only [Try.ntmps32, List.size_toArray, List.length_cons, List.length_nil, Nat.reduceAdd, Nat.reduceSub, Array.replicate_succ, Array.replicate_zero, List.push_toArray, List.append_toArray, List.nil_append, List.cons_append]
  gi_wp2_with fail
  refine wpIn_wide.2 (wp_scope_fwd 0 (TogTail w L) rfl (wpIn_wide (n := 6).1 ?first) (fun a' w' hJ => wpIn_wide (n := 6).1 ?tail))
  case tail =>
    obtain ⟨D, u0, u1, u2, u3, u4, u5, u6, u7, u8, u9, u10, u11, u12, u13, u14, u15, u16, rfl, hD, hK, hno, hb⟩ := hJ
    gi_wp2_with fail
    simp only [Exit.jump]
    refine ⟨by simp, .inl ⟨_, _, rfl, run_takeDeferred hK, ?_⟩⟩
    refine ⟨.tuple #[.slice none 0 0, .int .i64 2], by simp [results, Try.results32], none, 0, 0, 2, rfl, .inr ⟨hno, rfl, rfl, rfl, rfl⟩, ?_⟩
    exact hb.trans ((Below.refl _ _).grown (grownBy_putObj' w' D (.deferred none)) hb.size (fun k e => by cases e; omega))
  case first =>
    gi_wp2_with (refine ⟨trivial, ?_⟩; gi_at_call 38; refine (callsIn_wide.2 (logFrames_any _ _ _ _)).mono ?_; rintro e w2 ⟨rfl, rfl⟩)
    obtain ⟨W0, hW0⟩ : ∃ W0, (w.alloc (.cells #[.slice none 0 0] 22)).alloc (.cells #[.slice A n c] 25) = W0 := ⟨_, rfl⟩
    have hs0 : W0.heap.size = w.heap.size + 1 + 1 := by rw [← hW0]; simp
    have hb0 : Below w.heap.size w W0 := by rw [← hW0]; exact ((Below.refl _ w).alloc (Nat.le_refl _) _).alloc (by simp) _
    have hinv : TogAt w L [] W0 := by
      refine ⟨by simp [allOk], ⟨.slice none 0 0, ?_, World.ownsRow_nil _ _ _ _⟩, hb0, by omega⟩
      rw [← hW0]; exact (Whole.new w 22 #[.slice none 0 0]).alloc _
    have hbn : W0.cell? ⟨w.heap.size + 1, 0, none⟩ = some (.slice A n c) := by
      rw [← hW0]
      have := (Whole.new (w.alloc (.cells #[.slice none 0 0] 22)) 25 #[.slice A n c]).cell 0
      rwa [World.size_alloc] at this
    rw [hW0]
    clear hW0
    refine wpIn_range_mem (by omega) (gf := 55) (lb := #[.pointer (some ⟨w.heap.size + 1, 0, none⟩)]) rfl (enters_of Try.func55 (by kernel_rfl) rfl) (encs := fun x : LF => #[.slice x.A x.n x.c, .int .i64 x.er])
      (logFrames_mem 5 (w.heap.size + 1) w.heap.size w A n c es (by omega) HR.out W0 (by omega) (by omega) hb0 hbn)
      (fun h k => kpB_t h k) (kpB_b (by omega) (by omega)) (Below.refl _ _) (fun _ => rfl)
      (TogAt w L) (fun c W => c = .goto 0 ∧ WrongAt w L W)
      (togAt_own _ _ _ (by omega)) (wrongAt_own _ _ _ (by omega)) hinv
      (fun pre x a' W => LF.Ok w.heap.size L pre x W ∧ a' = { tmps := #[.slice A n c, undef, .slice none 0 0, .int .i64 0, .pointer (some ⟨w.heap.size, 0, none⟩), .slice x.A x.n x.c, .int .i64 x.er, .slice A n c, .func (.func 55) #[] #[.pointer (some ⟨w.heap.size + 1, 0, none⟩)], .slice x.A x.n x.c, .int .i64 x.er, undef, undef, undef, undef, undef, undef], defers := [] })
      (fun a' p X Y row hs hg hr => by
        obtain ⟨⟨r, h1, h2⟩, h3⟩ := hs
        exact ⟨⟨r, h1, h2.turn hg (fun r e => (hr r e).2)⟩, h3⟩) ?assign ?body ?done ?stop
    case assign =>
      intro l pre x W K hI hOk hK
      rw [HE.out] at hOk
      gi_wp2
      exact hK _ _ (KeepsFrom.refl _ _) kpB_refl hI ⟨hOk, rfl⟩
    case body =>
      rintro l pre x a' W hl hI ⟨⟨r, hr, hF⟩, rfl⟩
      have hrL : r ∈ L := List.mem_of_getElem? hr
      have hpl : pre.length < n := by rw [← HL.out]; exact (List.getElem?_eq_some_iff.1 hr).1
      have HI := Lib.hid hI
      have HRr := Lib.hid hr
      rcases hF with ⟨hok, he, hn', ho⟩ | ⟨hok, he, _⟩
      · obtain ⟨v, hv, hown⟩ := hI.row
        obtain ⟨Av, cv, rfl⟩ := own_form hown
        have hx6 := lfr_len hok
        have htot : (lbytes (L.take pre.length)).length ≤ 306 * 1000 := by
          have h1 := lbytes_le hI.ok
          rw [List.length_take] at h1
          have : min pre.length L.length ≤ 1000 := by omega
          omega
        obtain ⟨v2, w2, hrun, o2, g2⟩ := run_app W (w.heap.size + 2) _ (lbytes (L.take pre.length)).length _ hown W.heap.size x.A x.n x.c (lfr r) (Rd.of_own ho) (by omega) hI.size
        obtain ⟨A2, c2, rfl⟩ := own_form o2
        have hb2 : Below (w.heap.size + 2) W w2 := below_row hown g2 hI.size
        have hw2 : Whole w2 w.heap.size 22 #[.slice Av (lbytes (L.take pre.length)).length cv] := hv.below hb2 (by omega)
        have u0 := hv.cell 0
        have v0 := hw2.cell 0
        have vf := hw2.frozen 0
        have hk2 := keeps_row hown g2
        simp only [List.getElem?_toArray, List.getElem?_cons_zero] at u0 v0
        have HRun := Lib.hid hrun
        have HO2 := Lib.hid o2
        have HW2 := Lib.hid hw2
        have HB2 := Lib.hid hb2
        have HK2 := Lib.hid hk2
        have HOk := Lib.hid hok
        have HN := Lib.hid hn'
        have he0 : (x.er == 0) = true := by simp [he]
        clear hrun o2 hw2 hb2 hk2 hok hI hv hown g2 ho hr he hn' hx6 htot
        gi_wp2_with (gi_at_builtin; refine wpListIn_app rfl _ _ _ rfl _ _ _ _ rfl rfl HRun.out ?_; clear HRun)
        have hw3 := HW2.out.set 0 (.slice A2 ((lbytes (L.take pre.length)).length + x.n) c2)
        simp only [List.setIfInBounds_toArray, List.set_cons_zero] at hw3
        have hs2 := HB2.out.size
        have hsz := HI.out.size
        have hlen : (pre ++ [x]).length = pre.length + 1 := by simp
        have hbw : Below w.heap.size W w2 := HB2.out.mono (by omega)
        refine ⟨(HK2.out.trans (KeepsOthers.setCell _ _ _)).from _, ⟨hbw.setCell (p := ⟨w.heap.size, 0, none⟩) (Nat.le_refl _) _, ?_⟩, ?_⟩
        · exact (Below.heap_setCell w2 ⟨w.heap.size, 0, none⟩ _ _ (by simp)).trans (HB2.out.block _ (by omega))
        · refine ⟨by rw [hlen]; exact allOk_take HRr.out HI.out.ok HOk.out, ⟨_, hw3, ?_⟩, (HI.out.below.trans hbw).setCell (p := ⟨w.heap.size, 0, none⟩) (Nat.le_refl _) _, by simpa [World.setCell] using Nat.le_trans hsz hs2⟩
          rw [hlen]
          have e1 : (lbytes (L.take pre.length)).length + x.n = (lbytes (L.take (pre.length + 1))).length := by rw [lbytes_take HRr.out, List.length_append, HN.out]
          have h3 := own_set HO2.out (b := w.heap.size) (off := 0) (by omega) (.slice A2 ((lbytes (L.take pre.length)).length + x.n) c2)
          rw [← e1, lbytes_take HRr.out, bv_append]
          exact h3
      · have HNo := Lib.hid (not_allOk hr hok)
        have he0 : (x.er == 0) = false := by simp [he]
        clear hr hok hI
        gi_wp2_with fail
        refine wpIn_goto ?_
        exact ⟨KeepsFrom.refl _ _, rfl, HNo.out, HI.out.below⟩
    case done =>
      rintro D ys W1 hD hys hI hK
      have hl1 : L.take ys.length = L := by rw [List.take_of_length_le]; rw [hys, HE.out]; exact Nat.le_refl _
      obtain ⟨v, hv, hown⟩ := hI.row
      have hok := hI.ok
      rw [hl1] at hown hok
      obtain ⟨Av, cv, rfl⟩ := own_form hown
      have v0 := hv.cell 0
      simp only [List.getElem?_toArray, List.getElem?_cons_zero] at v0
      have HI := Lib.hid hI
      have HK := Lib.hid hK
      have HO := Lib.hid hown
      have HOk := Lib.hid hok
      clear hv hown hI hK hok hys hl1
      gi_wp2_with fail
      simp only [Exit.jump]
      refine ⟨by simp, .inl ⟨_, _, rfl, run_takeDeferred HK.out, ?_⟩⟩
      refine ⟨.tuple #[.slice Av (lbytes L).length cv, .int .i64 0], by simp [results, Try.results32], Av, _, cv, 0, rfl, .inl ⟨HOk.out, rfl, rfl, own_weaker (ownsRow_putObj HO.out _ HK.out rfl) (by omega)⟩, ?_⟩
      exact HI.out.below.trans ((Below.refl _ _).grown (grownBy_putObj' W1 D (.deferred none)) HI.out.below.size (fun k e => by cases e; omega))
    case stop =>
      rintro D c W hD ⟨rfl, hWr⟩ hK
      refine wpIn_goto ?_
      exact ⟨rfl, D, _, _, _, _, _, _, _, _, _, _, _, _, _, _, _, _, _, rfl, by omega, hK, hWr⟩

def okAll (L : List PR) : Bool := L.all fun r => mayB r.1 r.2
theorem okAll_yes {L : List PR} (h : allOk L) : okAll L = true := by
  simp only [okAll, List.all_eq_true]; exact fun r hr => h r hr
theorem okAll_no {L : List PR} (h : ¬ allOk L) : okAll L = false := by
  cases hv : okAll L with
  | false => rfl
  | true => exact absurd (fun r hr => List.all_eq_true.1 hv r hr) h
/-- How many bytes the frames of records have. -/
def lenOf (L : List PR) : Int := if okAll L = true then ((lbytes L).length : Int) else -1
theorem lenOf_yes {L : List PR} (h : allOk L) : lenOf L = ((lbytes L).length : Int) := by rw [lenOf, okAll_yes h, if_pos rfl]
theorem lenOf_no {L : List PR} (h : ¬ allOk L) : lenOf L = -1 := by rw [lenOf, okAll_no h, if_neg (by simp)]
def LenIs (L : List PR) (w : World) (e : Ending) (w' : World) : Prop := e = .returned (.int .i64 (lenOf L)) ∧ Below w.heap.size w w'

structure LenAt (w : World) (L : List PR) (pre : List LF) (W : World) : Prop where
  ok : allOk (L.take pre.length)
  box : Whole W w.heap.size 3 #[.int .i64 ((lbytes (L.take pre.length)).length : Int)]
  below : Below w.heap.size w W
theorem lenAt_own (w : World) (L : List PR) (B : Nat) (hB : w.heap.size ≤ B) : OwnFrom B (LenAt w L) := by
  intro pre W1 W2 row h hg hr
  have hr' : ∀ r, row = some r → ∃ o : Obj, W1.heap[r]? = some o ∧ o.isCells = false := fun r e => (hr r e).2
  exact ⟨h.ok, h.box.turn hg hr', h.below.grown hg h.below.size (fun k e => by have := (hr k e).1; omega)⟩

set_option maxRecDepth 100000 in
set_option maxHeartbeats 1000000 in
theorem logLong_any (A : Option Addr) (n c : Nat) (es : List RE) (L : List PR) (hL : recsOf es = L) (B : Nat) (w : World) (hr : RdR w B A n es) (hB : B ≤ w.heap.size) (hn : n ≤ 1000) :
    Calls Try.prog 20 #[.slice A n c] w (LenIs L w) := by
  have hl : L.length = n := by rw [← hL, recsOf, List.length_map]; exact hr.1
  have HR := Lib.hid (hr.more hB)
  have HL := Lib.hid hl
  have HE := Lib.hid hL
  clear hr hB hl hL
  refine (callsIn_wide (n := 6)).1 ?_
  refine callsIn_of_wp_marks Try.func20 rfl trivial ?_ rfl
  simp only [Try.ntmps20, List.size_toArray, List.length_cons, List.length_nil, Nat.reduceAdd, Nat.reduceSub, Array.replicate_succ, Array.replicate_zero, List.push_toArray, List.append_toArray, List.nil_append, List.cons_append]
  gi_wp2_with fail
  refine wpIn_wide.2 (wp_scope_fwd 0 (TogTail w L) rfl (wpIn_wide (n := 6).1 ?first) (fun a' w' hJ => wpIn_wide (n := 6).1 ?tail))
  case tail =>
    obtain ⟨D, u0, u1, u2, u3, u4, u5, u6, u7, u8, u9, u10, u11, u12, u13, u14, u15, u16, rfl, hD, hK, hno, hb⟩ := hJ
    have hlen := lenOf_no hno
    gi_wp2_with fail
    simp only [Exit.jump]
    refine ⟨by simp, .inl ⟨_, _, rfl, run_takeDeferred hK, ?_⟩⟩
    refine ⟨.int .i64 (-1), by simp [results, Try.results20], by rw [hlen], ?_⟩
    exact hb.trans ((Below.refl _ _).grown (grownBy_putObj' w' D (.deferred none)) hb.size (fun k e => by cases e; omega))
  case first =>
    gi_wp2_with (refine ⟨trivial, ?_⟩; gi_at_call 38; refine (callsIn_wide.2 (logFrames_any _ _ _ _)).mono ?_; rintro e w2 ⟨rfl, rfl⟩)
    obtain ⟨W0, hW0⟩ : ∃ W0, (w.alloc (.cells #[.int .i64 0] 3)).alloc (.cells #[.slice A n c] 25) = W0 := ⟨_, rfl⟩
    have hs0 : W0.heap.size = w.heap.size + 1 + 1 := by rw [← hW0]; simp
    have hb0 : Below w.heap.size w W0 := by rw [← hW0]; exact ((Below.refl _ w).alloc (Nat.le_refl _) _).alloc (by simp) _
    have hinv : LenAt w L [] W0 := by
      refine ⟨by simp [allOk], ?_, hb0⟩
      rw [← hW0]; exact (Whole.new w 3 #[.int .i64 0]).alloc _
    have hbn : W0.cell? ⟨w.heap.size + 1, 0, none⟩ = some (.slice A n c) := by
      rw [← hW0]
      have := (Whole.new (w.alloc (.cells #[.int .i64 0] 3)) 25 #[.slice A n c]).cell 0
      rwa [World.size_alloc] at this
    rw [hW0]
    clear hW0
    refine wpIn_range_mem (by omega) (gf := 55) (lb := #[.pointer (some ⟨w.heap.size + 1, 0, none⟩)]) rfl (enters_of Try.func55 (by kernel_rfl) rfl) (encs := fun x : LF => #[.slice x.A x.n x.c, .int .i64 x.er])
      (logFrames_mem 5 (w.heap.size + 1) w.heap.size w A n c es (by omega) HR.out W0 (by omega) (by omega) hb0 hbn)
      (fun h k => kpB_t h k) (kpB_b (by omega) (by omega)) (Below.refl _ _) (fun _ => rfl)
      (LenAt w L) (fun c W => c = .goto 0 ∧ WrongAt w L W)
      (lenAt_own _ _ _ (by omega)) (wrongAt_own _ _ _ (by omega)) hinv
      (fun pre x a' W => LF.Ok w.heap.size L pre x W ∧ a' = { tmps := #[.slice A n c, undef, .int .i64 0, .pointer (some ⟨w.heap.size, 0, none⟩), .slice x.A x.n x.c, .int .i64 x.er, .slice A n c, .func (.func 55) #[] #[.pointer (some ⟨w.heap.size + 1, 0, none⟩)], .slice x.A x.n x.c, .int .i64 x.er, undef, undef, undef, undef, undef, undef, undef], defers := [] })
      (fun a' p X Y row hs hg hr => by
        obtain ⟨⟨r, h1, h2⟩, h3⟩ := hs
        exact ⟨⟨r, h1, h2.turn hg (fun r e => (hr r e).2)⟩, h3⟩) ?assign ?body ?done ?stop
    case assign =>
      intro l pre x W K hI hOk hK
      rw [HE.out] at hOk
      gi_wp2
      exact hK _ _ (KeepsFrom.refl _ _) kpB_refl hI ⟨hOk, rfl⟩
    case body =>
      rintro l pre x a' W hl hI ⟨⟨r, hr, hF⟩, rfl⟩
      have hpl : pre.length < n := by rw [← HL.out]; exact (List.getElem?_eq_some_iff.1 hr).1
      have HI := Lib.hid hI
      have HRr := Lib.hid hr
      rcases hF with ⟨hok, he, hn', _⟩ | ⟨hok, he, _⟩
      · have hx6 := lfr_len hok
        have htot : (lbytes (L.take pre.length)).length ≤ 306 * 1000 := by
          have h1 := lbytes_le hI.ok
          rw [List.length_take] at h1
          have : min pre.length L.length ≤ 1000 := by omega
          omega
        have hxn : x.n ≤ 306 := by omega
        obtain ⟨U, hU⟩ : ∃ U, (lbytes (L.take pre.length)).length = U := ⟨_, rfl⟩
        rw [hU] at htot
        have hbx := hI.box
        rw [hU] at hbx
        have u0 := hbx.cell 0
        have uf := hbx.frozen 0
        simp only [List.getElem?_toArray, List.getElem?_cons_zero] at u0
        have HOk := Lib.hid hok
        have HN := Lib.hid hn'
        have HU := Lib.hid hU
        have HBx := Lib.hid hbx
        have he0 : (x.er == 0) = true := by simp [he]
        clear hok hI hr he hn' hx6 hU hbx
        gi_wp2_with fail
        have hlen : (pre ++ [x]).length = pre.length + 1 := by simp
        have e1 : (U : Int) + (x.n : Int) = (((lbytes (L.take (pre ++ [x]).length)).length : Nat) : Int) := by rw [hlen, lbytes_take HRr.out, List.length_append, HU.out, HN.out]; omega
        have hw3 := HBx.out.set 0 (.int .i64 ((U : Int) + (x.n : Int)))
        simp only [List.setIfInBounds_toArray, List.set_cons_zero] at hw3
        refine ⟨(KeepsOthers.setCell _ _ _).from _, ⟨(Below.refl _ _).setCell (p := ⟨w.heap.size, 0, none⟩) (Nat.le_refl _) _, Below.heap_setCell W ⟨w.heap.size, 0, none⟩ _ _ (by simp)⟩, ?_⟩
        refine ⟨by rw [hlen]; exact allOk_take HRr.out HI.out.ok HOk.out, ?_, HI.out.below.setCell (p := ⟨w.heap.size, 0, none⟩) (Nat.le_refl _) _⟩
        rw [e1] at hw3 ⊢
        exact hw3
      · have HNo := Lib.hid (not_allOk hr hok)
        have he0 : (x.er == 0) = false := by simp [he]
        clear hr hok hI
        gi_wp2_with fail
        refine wpIn_goto ?_
        exact ⟨KeepsFrom.refl _ _, rfl, HNo.out, HI.out.below⟩
    case done =>
      rintro D ys W1 hD hys hI hK
      have hl1 : L.take ys.length = L := by rw [List.take_of_length_le]; rw [hys, HE.out]; exact Nat.le_refl _
      have hv := hI.box
      have hok := hI.ok
      rw [hl1] at hv hok
      have v0 := hv.cell 0
      simp only [List.getElem?_toArray, List.getElem?_cons_zero] at v0
      have HI := Lib.hid hI
      have HK := Lib.hid hK
      have HOk := Lib.hid (lenOf_yes hok)
      clear hv hI hK hok hys hl1
      gi_wp2_with fail
      simp only [Exit.jump]
      refine ⟨by simp, .inl ⟨_, _, rfl, run_takeDeferred HK.out, ?_⟩⟩
      refine ⟨.int .i64 ((lbytes L).length : Int), by simp [results, Try.results20], by rw [HOk.out], ?_⟩
      exact HI.out.below.trans ((Below.refl _ _).grown (grownBy_putObj' W1 D (.deferred none)) HI.out.below.size (fun k e => by cases e; omega))
    case stop =>
      rintro D c W hD ⟨rfl, hWr⟩ hK
      refine wpIn_goto ?_
      exact ⟨rfl, D, _, _, _, _, _, _, _, _, _, _, _, _, _, _, _, _, _, rfl, by omega, hK, hWr⟩

end Go.Proofs.Ytbkfpghpfaemeaa

/-
  The walks of 'frames' of package frame and of the iterator that it hands back: frame by frame. Conditions: those that each theorem names.
-/
namespace Go.Proofs.Ytbkfpghpfaemeaa
open Go.RowKit Go.Shelf
attribute [local go_sem] Oper.semAt_some

/-- A frame that is handed over: its payload's slice, and what that reads as. -/
structure Fr where
  A : Option Addr
  c : Nat
  p : List Nat
structure FrOkAt (w0 : World) (n₀ : Nat) (x : Fr) : Prop where
  rd : Rd w0 n₀ x.A x.p.length (bv x.p)
  many : x.p.length ≤ 4000
abbrev FrAt (w0 : World) (n₀ : Nat) := { x : Fr // FrOkAt w0 n₀ x }
def Fr.val (x : Fr) : Value := .agg #[.slice x.A x.p.length x.c, .int .i64 (frLen x.p.length : Int)]
def pays {w0 : World} {n₀ : Nat} (l : List (FrAt w0 n₀)) : List (List Nat) := l.map fun x => x.1.p
set_option maxRecDepth 100000 in
theorem pays_snoc {w0 : World} {n₀ : Nat} (l : List (FrAt w0 n₀)) (x : FrAt w0 n₀) : pays (l ++ [x]) = pays l ++ [x.1.p] := by simp [pays]

set_option maxRecDepth 100000 in
set_option maxHeartbeats 400000 in
theorem frames_any (A : Option Addr) (n c : Nat) (w : World) :
    Calls Try.prog 57 #[.slice A n c] w fun e w' => e = .returned (.func (.func 73) #[] #[.pointer (some ⟨w.heap.size, 0, none⟩)]) ∧ w' = w.alloc (.cells #[.slice A n c] 22) := by
  go_enter Try.func57, Try.ntmps57
  go_wp2
  go_ret
  exact ⟨rfl, rfl⟩

/-- Where the iterator stands: what has been handed over, what is still to come, where it goes on. -/
structure FramesInv (w0 : World) (n₀ Bs : Nat) (A : Option Addr) (n c : Nat) (L : List (List Nat)) (used : Nat) (J : List (FrAt w0 n₀) → World → Prop) (pre : List (FrAt w0 n₀)) (at_ : Nat) (W : World) : Prop where
  rest : ∃ rest, pays pre ++ rest = L
  here : at_ = ((pays pre).flatMap fr).length
  le : at_ ≤ n
  box : W.cell? ⟨Bs, 0, none⟩ = some (.slice A n c)
  below : Below n₀ w0 W
  inv : J pre W

def FramesAt (l : Nat) (w0 : World) (n₀ Bs : Nat) (A : Option Addr) (n c : Nat) (L : List (List Nat)) (used : Nat) (J : List (FrAt w0 n₀) → World → Prop) (W0 : World) (a' : Act) (w' : World) : Prop :=
  W0.heap.size ≤ w'.heap.size ∧ ∃ (pre : List (FrAt w0 n₀)) (at_ : Nat) (u4 u5 u6 u7 u8 u9 u10 u11 u12 u13 u14 u15 u16 u17 u18 u19 u20 : Value), a' = { tmps := #[.func (.yield l) #[] #[], .pointer (some ⟨Bs, 0, none⟩), undef, .int .i64 (at_ : Int), u4, u5, u6, u7, u8, u9, u10, u11, u12, u13, u14, u15, u16, u17, u18, u19, u20], defers := [] } ∧ FramesInv w0 n₀ Bs A n c L used J pre at_ w'

set_option maxRecDepth 100000 in
set_option maxHeartbeats 1000000 in
theorem frames1_in (m l Bs n₀ : Nat) (w0 : World) (A : Option Addr) (n c : Nat) (bs : List Nat) (L : List (List Nat)) (used : Nat) (hn : n ≤ 1000000) (hc : n ≤ c) (hb : ∀ x ∈ bs, x < 256) (hall : AllIs bs L used) (hr : Rd w0 n₀ A n (bv bs)) (J Jx : List (FrAt w0 n₀) → World → Prop)
    (W0 : World) (hJ : AbidesFrom W0.heap.size J)
    (hY : ∀ pre x W, J pre W → (pays (pre ++ [x])) <+: L → YieldAt Fence.wide (m - 1) Try.prog l #[x.1.val] W fun e W' =>
      (e = .returned (.bool true) ∧ J (pre ++ [x]) W' ∧ KpB n₀ Bs W W') ∨ (e = .returned (.bool false) ∧ Jx (pre ++ [x]) W'))
    (hBs : W0.cell? ⟨Bs, 0, none⟩ = some (.slice A n c)) (hBsl : Bs < W0.heap.size) (hn₀ : n₀ ≤ W0.heap.size) (hb0 : Below n₀ w0 W0) (h0 : J [] W0) :
    CallsIn Fence.wide m Try.prog 73 #[.func (.yield l) #[] #[], .pointer (some ⟨Bs, 0, none⟩)] W0 fun e W' => (∃ v, e = .returned v) ∧
      ((∃ ys, pays ys = L ∧ J ys W') ∨ (∃ pre, pays pre <+: L ∧ Jx pre W')) := by
  have HY := Lib.hid hY
  have HJ := Lib.hid hJ
  have Hb := Lib.hid hb
  have HR := Lib.hid hr
  have hl : bs.length = n := by have := hr.1; rwa [bv_length] at this
  have HL := Lib.hid hl
  have HAll := Lib.hid hall
  have H0 : Hid (FramesInv w0 n₀ Bs A n c L used J [] 0 W0) := ⟨⟨L, by simp [pays]⟩, rfl, Nat.zero_le _, hBs, hb0, h0⟩
  have Hs := Lib.hid (show Bs < W0.heap.size from hBsl)
  have Hn := Lib.hid hn₀
  clear hY hJ hb hr h0 hBs hn₀ hBsl hl hall hb0
  refine callsIn_of_wp Try.func73 rfl trivial ?_ rfl
  simp only [Try.ntmps73, List.size_toArray, List.length_cons, List.length_nil, Nat.reduceAdd, Nat.reduceSub, Array.replicate_succ, Array.replicate_zero, List.push_toArray, List.append_toArray, List.nil_append, List.cons_append]
  gi_wp2_with fail
  refine wpIn_wide.2 (wp_scope_back_behind 0 (FramesAt l w0 n₀ Bs A n c L used J W0)
    (fun a' _ => n - (intOf (a'.tmps.getD 3 undef)).toNat) rfl ?ahead (fun a' w' hJ' => wpIn_wide (n := m).1 ?pass))
  case ahead =>
    go_wp2_with fail
    exact ⟨Nat.le_refl _, [], 0, _, _, _, _, _, _, _, _, _, _, _, _, _, _, _, _, _, rfl, H0.out⟩
  case pass =>
    obtain ⟨hsz, pre, at_, u4, u5, u6, u7, u8, u9, u10, u11, u12, u13, u14, u15, u16, u17, u18, u19, u20, rfl, hI⟩ := hJ'
    have hat := hI.le
    have hBox := hI.box
    obtain ⟨rest, hrest⟩ := hI.rest
    have HI := Lib.hid hI
    clear hI
    obtain ⟨A', hA1, hA2⟩ := run_rest A n c at_ hat
    have hrd : Rd w' n₀ A' (n - at_) (bv (bs.drop at_)) := by
      have h2 := (HR.out.below HI.out.below).cut hat A' (fun hk => hA2 ⟨hk, hc⟩)
      rwa [bv, ← List.map_drop] at h2
    have hnn : n₀ ≤ w'.heap.size := by have := Hn.out; omega
    have hbb : ∀ x ∈ bs.drop at_, x < 256 := fun x hx => Hb.out x (List.mem_of_mem_drop hx)
    cases rest with
    | nil =>
      rw [List.append_nil] at hrest
      have hno : ∀ p, ¬ IsFr (bs.drop at_) p := by
        have h1 := HAll.out.2.2.2
        rw [HI.out.here, hrest, ← HAll.out.2.1]; exact h1
      have Hf := Lib.hid (frFirst_no hno hrd hnn hbb (by omega) (by omega : n - at_ ≤ c - at_))
      have HP := Lib.hid hrest
      clear hno hrd hbb hrest hA2
      gi_wp2_with fail
      refine ⟨trivial, fun h => (by cases h), (callsIn_wide.2 Hf.out).mono ?_⟩
      rintro e w1 ⟨rfl, hb1⟩
      have hJ2 : J pre (w1.alloc (.cells #[.slice none 0 0, .int .i64 0] 93)) := by
        have hb2 := hb1.alloc hb1.size (.cells #[.slice none 0 0, .int .i64 0] 93)
        exact HJ.out pre w' _ none HI.out.inv ⟨hb2.os, hb2.tape, hb2.output, hb2.size, fun i hi _ => hb2.block i hi⟩ (fun r e => by cases e)
      have HJ2 := Lib.hid hJ2
      have X1 := Lib.hid (Whole.new w1 93 #[.slice none 0 0, .int .i64 0])
      have x1 := X1.out.cell 1
      simp only [List.getElem?_toArray, List.getElem?_cons_zero, List.getElem?_cons_succ] at x1
      clear hJ2 hb1 Hf
      gi_wp2_with fail
      refine ⟨fun _ h => (by cases h), ?_⟩
      gi_wp2_with fail
      simp only [Exit.jump]
      go_end0
      exact ⟨⟨_, rfl⟩, .inl ⟨pre, HP.out, HJ2.out⟩⟩
    | cons p rest =>
      have hp : IsFr (bs.drop at_) p := by
        have h1 := HAll.out
        rw [← hrest] at h1
        have h2 := h1.next
        rwa [← HI.out.here] at h2
      have hple := hp.le
      have hp4 := hp.1
      rw [List.length_drop, HL.out] at hple
      have Hf := Lib.hid (frFirst_yes hp hrd hnn hbb (by omega) (by omega : n - at_ ≤ c - at_))
      have HP := Lib.hid hrest
      clear hp hrd hbb hrest hA2
      have hF5 := frLen_pos p.length
      gi_wp2_with fail
      refine ⟨trivial, fun h => (by cases h), (callsIn_wide.2 Hf.out).mono ?_⟩
      rintro e w1 ⟨A1, c1, rfl, hr1, hb1⟩
      have hrw0 : Rd w0 n₀ A1 p.length (bv p) := hr1.keep fun q hq => (HI.out.below.cell hq).symm
      obtain ⟨x, hx⟩ : ∃ x : FrAt w0 n₀, x.1 = ⟨A1, c1, p⟩ := ⟨⟨⟨A1, c1, p⟩, ⟨hrw0, hp4⟩⟩, rfl⟩
      have hb2 := hb1.alloc hb1.size (.cells #[.slice A1 p.length c1, .int .i64 (frLen p.length : Int)] 93)
      have hJ2 : J pre (w1.alloc (.cells #[.slice A1 p.length c1, .int .i64 (frLen p.length : Int)] 93)) :=
        HJ.out pre w' _ none HI.out.inv ⟨hb2.os, hb2.tape, hb2.output, hb2.size, fun i hi _ => hb2.block i hi⟩ (fun r e => by cases e)
      obtain ⟨F, hF⟩ : ∃ F, frLen p.length = F := ⟨_, rfl⟩
      have hpp : pays (pre ++ [x]) = pays pre ++ [p] := by rw [pays_snoc, hx]
      obtain ⟨fn, tmps, assign, body, hy, hRR⟩ := HY.out pre x _ hJ2 (by rw [hpp, ← HP.out]; exact ⟨rest, by simp⟩)
      rw [hx] at hy
      dsimp only [Fr.val] at hy
      have hhere : at_ + F = ((pays (pre ++ [x])).flatMap fr).length := by rw [hpp, List.flatMap_append, List.length_append, ← HI.out.here, List.flatMap_singleton, fr_length, hF]
      rw [hF] at hy hb2 hJ2 hple hF5 hRR ⊢
      have X1 := Lib.hid (Whole.new w1 93 #[.slice A1 p.length c1, .int .i64 (F : Int)])
      have x0 := X1.out.cell 0
      have x1 := X1.out.cell 1
      simp only [List.getElem?_toArray, List.getElem?_cons_zero, List.getElem?_cons_succ] at x0 x1
      have HRR := Lib.hid hRR
      have HB2 := Lib.hid hb2
      have HPP := Lib.hid hpp
      have HHere := Lib.hid hhere
      clear hRR hb2 hJ2 hb1 hr1 hrw0 hpp hhere hx hF Hf X1
      have hFi : (0 : Int) < (F : Int) := by omega
      have hFin : (F : Int) ≤ 1000000 := by omega
      gi_wp2_with fail
      clear hy x0 x1
      refine ⟨fun h => (by cases h), HRR.out.mono ?_⟩
      rintro e W3 (⟨rfl, hJ3, hk3⟩ | ⟨rfl, hJx3⟩)
      · have HJ3 := Lib.hid hJ3
        have HK3 := Lib.hid hk3
        clear hJ3 hk3
        gi_wp2_with fail
        refine wpIn_goto ?_
        have hs2 := HB2.out.size
        have hs3 := HK3.out.1.size
        have hBs' : Bs < w'.heap.size := by have := Hs.out; omega
        have hb3 : W3.cell? ⟨Bs, 0, none⟩ = some (.slice A n c) := ((World.cell?_of_block (a := ⟨Bs, 0, none⟩) HK3.out.2).trans (HB2.out.cell (p := ⟨Bs, 0, none⟩) hBs')).trans HI.out.box
        have hbel : Below n₀ w0 W3 := (HI.out.below.trans (HB2.out.mono hnn)).trans HK3.out.1
        have hs4 : W0.heap.size ≤ W3.heap.size := by
          omega
        refine ⟨rfl, ⟨hs4, pre ++ [x], at_ + F, _, _, _, _, _, _, _, _, _, _, _, _, _, _, _, _, _, rfl, ⟨⟨rest, by rw [HPP.out, ← HP.out]; simp⟩, HHere.out, by omega, hb3, hbel, HJ3.out⟩⟩, ?_⟩
        simp [intOf]; omega
      · have HJx := Lib.hid hJx3
        clear hJx3
        gi_wp2_with fail
        simp only [Exit.jump]
        go_end0
        exact ⟨⟨_, rfl⟩, .inr ⟨pre ++ [x], by rw [HPP.out, ← HP.out]; exact ⟨rest, by simp⟩, HJx.out⟩⟩

set_option maxRecDepth 100000 in
/-- The iterator hands over the frames, one by one. -/
theorem frames_stops (m Bs n₀ : Nat) (w0 : World) (A : Option Addr) (n c : Nat) (bs : List Nat) (L : List (List Nat)) (used : Nat) (hn : n ≤ 1000000) (hc : n ≤ c) (hb : ∀ x ∈ bs, x < 256) (hall : AllIs bs L used) (hr : Rd w0 n₀ A n (bv bs)) (w : World) (hBl : Bs < w.heap.size) (hn₀ : n₀ ≤ w.heap.size) (hb0 : Below n₀ w0 w)
    (hBn : w.cell? ⟨Bs, 0, none⟩ = some (.slice A n c)) :
    SeqStopsK Fence.wide m Try.prog 73 #[.pointer (some ⟨Bs, 0, none⟩)] (fun x : FrAt w0 n₀ => #[x.1.val]) (KpB n₀ Bs) (fun ys => pays ys = L) (fun pre => pays pre <+: L) L.length w := fun l J Jx W hW hJ _ hY h0 =>
  frames1_in m l Bs n₀ w0 A n c bs L used hn hc hb hall hr J Jx W hJ (fun pre x W' h1 h2 => hY pre x W' h1 (by
    have h3 := h2.length_le
    rw [pays_snoc, List.length_append] at h3
    simp only [pays, List.length_map, List.length_singleton] at h3
    omega)) ((hW.cell (p := ⟨Bs, 0, none⟩) hBl).trans hBn) (by have := hW.size; omega) (by have := hW.size; omega) (hb0.trans (hW.mono hn₀)) h0

end Go.Proofs.Ytbkfpghpfaemeaa

/-
  Rows of bytes of the call's own, in a slice of its own: what they read as, one more behind them. Conditions: those that each theorem names.
-/
namespace Go.Proofs.Ytbkfpghpfaemeaa
open Go.RowKit Go.Shelf

def BE.val (x : BE) : Value := .slice x.A x.n x.c
/-- Slice v of the call's own holds slices of the call's own, which read as the rows l. -/
def RowsAt (base : Nat) (w : World) (v : Value) (l : List (List Nat)) : Prop :=
  ∃ es : List BE, w.ownsRow base 22 1 v l.length (es.map BE.val) ∧ es.map (·.bs) = l ∧ ∀ x ∈ es, w.ownsRow base 5 1 x.val x.n (bv x.bs)

set_option maxRecDepth 100000 in
theorem RowsAt.nil_ (base : Nat) (w : World) : RowsAt base w (.slice none 0 0) [] := ⟨[], World.ownsRow_nil _ _ _ _, rfl, by simp⟩
set_option maxRecDepth 100000 in
theorem RowsAt.form {base : Nat} {w : World} {v : Value} {l : List (List Nat)} (h : RowsAt base w v l) : ∃ A c, v = .slice A l.length c := by
  obtain ⟨es, h1, _⟩ := h
  exact own_form h1
set_option maxRecDepth 100000 in
theorem RowsAt.under {base : Nat} {w w' : World} {v : Value} {l : List (List Nat)} (h : RowsAt base w v l) (hb : Below w.heap.size w w') : RowsAt base w' v l := by
  obtain ⟨es, h1, h2, h3⟩ := h
  exact ⟨es, own_under h1 hb, h2, fun x hx => own_under (h3 x hx) hb⟩
set_option maxRecDepth 100000 in
theorem RowsAt.weaker {base base' : Nat} {w : World} {v : Value} {l : List (List Nat)} (h : RowsAt base' w v l) (hb : base ≤ base') : RowsAt base w v l := by
  obtain ⟨es, h1, h2, h3⟩ := h
  exact ⟨es, own_weaker h1 hb, h2, fun x hx => own_weaker (h3 x hx) hb⟩
set_option maxRecDepth 100000 in
theorem RowsAt.turn {base : Nat} {w w' : World} {v : Value} {l : List (List Nat)} {row : Option Nat} (h : RowsAt base w v l) (hg : w.grownBy w' row) (hr : ∀ r, row = some r → ∃ o : Obj, w.heap[r]? = some o ∧ o.isCells = false) : RowsAt base w' v l := by
  obtain ⟨es, h1, h2, h3⟩ := h
  exact ⟨es, own_turn h1 hg hr, h2, fun x hx => own_turn (h3 x hx) hg hr⟩
set_option maxRecDepth 100000 in
/-- A store into a block of another type. -/
theorem RowsAt.far {base : Nat} {w : World} {v : Value} {l : List (List Nat)} (h : RowsAt base w v l) {b : Nat} {t : TypeId} {cs : Array Value} (hw : Whole w b t cs) (h1 : 22 ≠ t) (h2 : 5 ≠ t) (i : Nat) (u : Value) : RowsAt base (w.setCell ⟨b, i, none⟩ u) v l := by
  obtain ⟨es, g1, g2, g3⟩ := h
  exact ⟨es, ownsRow_setCell_other (a := ⟨b, i, none⟩) g1 (own_apart_of h1 g1 hw) u, g2, fun x hx => ownsRow_setCell_other (a := ⟨b, i, none⟩) (g3 x hx) (own_apart_of h2 (g3 x hx) hw) u⟩
set_option maxRecDepth 100000 in
/-- As a slice of rows that is read. -/
theorem RowsAt.read {base : Nat} {w : World} {A : Option Addr} {c : Nat} {l : List (List Nat)} (h : RowsAt base w (.slice A l.length c) l) (hb : ∀ x ∈ l, ∀ y ∈ x, y < 256) : ∃ es : List BE, es.map (·.bs) = l ∧ RdB w w.heap.size A l.length es := by
  obtain ⟨es, h1, h2, h3⟩ := h
  have hl : es.length = l.length := by rw [← h2, List.length_map]
  refine ⟨es, h2, hl, fun hn => ?_, fun x hx => ?_⟩
  · obtain ⟨g, cap, hv, _, hlt⟩ := h1.form hn
    injection hv with hA _ hc
    subst hA
    refine ⟨g, 0, rfl, hlt, fun j x hx => ?_⟩
    rw [Nat.zero_add]
    have hj : j < es.length := (List.getElem?_eq_some_iff.1 hx).1
    rw [h1.cellAt j (by omega), List.getElem?_map, hx]
    rfl
  · exact ⟨Rd.of_own (h3 x hx), hb x.bs (by rw [← h2]; exact List.mem_map_of_mem hx), own_cap (h3 x hx), own_capm (h3 x hx)⟩

set_option maxRecDepth 100000 in
theorem info_row : (Try.prog.info? 22).map (fun i => (i.zero, i.size, i.bytes)) = some (some (.slice none 0 0), 1, 24) := by kernel_rfl

set_option maxRecDepth 100000 in
/-- 'append(v, x)' of one slice more. -/
theorem rows_app (w : World) (base : Nat) (v : Value) (l : List (List Nat)) (h : RowsAt base w v l) (bl : Nat) (A : Option Addr) (n c : Nat) (bs : List Nat) (hlit : w.cell? ⟨bl, 0, none⟩ = some (.slice A n c)) (hown : w.ownsRow base 5 1 (.slice A n c) n (bv bs)) (hm : l.length ≤ 1000000) (hbase : base ≤ w.heap.size) :
    ∃ A' c' w', (Builtin.append_ #[71, 71] 71 #[v, .slice (some ⟨bl, 0, none⟩) 1 1]).run Try.prog w = .ok (.slice A' (l.length + 1) c') w' ∧ RowsAt base w' (.slice A' (l.length + 1) c') (l ++ [bs]) ∧ w.grownBy w' v.ownBlock ∧ (∀ b t cs, Whole w b t cs → 22 ≠ t → Whole w' b t cs) := by
  obtain ⟨i0, hi, hz0, hz1, hz2⟩ := info_parts info_row
  obtain ⟨es, h1, h2, h3⟩ := h
  obtain ⟨v', w', g1, g2, g3, _⟩ := run_append_own (P := Try.prog) w base 71 71 22 i0 (.slice none 0 0) 1 24 Try.underlying71 hi hz0 hz1 hz2 rfl (by decide) v l.length _ h1 ⟨bl, 0, none⟩ 1 1 [.slice A n c] rfl (by
    intro j u hu
    match j, hu with
    | 0, hu => simp at hu; subst hu; simpa [Addr.add] using hlit
    | j + 1, hu => simp at hu) (by simp [Value.oneCell']) (by unfold maxLen; omega) (by omega) hbase
  obtain ⟨A', c', rfl⟩ := own_form g2
  have keepB : ∀ {m : Nat} {u : Value} {xs : List Value}, w.ownsRow base 5 1 u m xs → w'.ownsRow base 5 1 u m xs := by
    intro m u xs hu
    refine hu.kept g3 ?_
    rcases hu.2 with ⟨rfl, _⟩ | ⟨g, cap, cur, rfl, _, hg, _⟩
    · exact .inl rfl
    · right
      intro e
      rcases h1.2 with ⟨rfl, _⟩ | ⟨g', cap', cur', rfl, _, hg', _⟩
      · simp [Value.ownBlock] at e
      · simp only [Value.ownBlock, Option.some.injEq] at e
        subst e
        rw [hg] at hg'
        injection hg' with hg'
        injection hg' with _ h5 _
        exact absurd h5 (by decide)
  refine ⟨A', c', w', g1, ⟨es ++ [⟨A, n, c, bs⟩], ?_, by simp [h2], fun x hx => ?_⟩, g3, fun b t cs hw hne => hw.grown g3 (Ne.symm (own_apart_of hne h1 hw))⟩
  · rw [List.length_append, List.length_singleton, List.map_append]; exact g2
  · simp only [List.mem_append, List.mem_singleton] at hx
    rcases hx with hx | rfl
    · exact keepB (h3 x hx)
    · exact keepB hown

end Go.Proofs.Ytbkfpghpfaemeaa

/-
  The region of 'All' of package frame that adds a payload: whatever the order. Conditions: those that each theorem names.
-/
namespace Go.Proofs.Ytbkfpghpfaemeaa
open Go.RowKit Go.Shelf

section
variable {m l : Nat} {K : Act → World → Prop} {Q : Exit → Act → World → Prop} {a : Act} {w : World} {dst : Option Tmp} {t : TypeId} {pos : String} {after : Array Edge} {x y : Operand}
set_option maxRecDepth 100000 in
theorem opI_load_rows {p : Addr} {A : Option Addr} {n c : Nat} (hx : a.eval x = .pointer (some p)) (hc : w.cell? p = some (.slice A n c)) (h : K (a.put dst (.slice A n c)) w) :
    ({ dst := dst, op := .load 71 x, type := t, pos := pos, after := after, guard := none } : Oper).wpIn (Fence.wide.inRound l) m Try.prog a w K Q := by
  refine opIn_of _ (by intro c; simp) ?_ h
  unfold execOp
  simp only [hx]
  go_simp
set_option maxRecDepth 100000 in
theorem opI_fieldF {b : Nat} (hx : a.eval x = .pointer (some ⟨b, 0, none⟩)) (h : K (a.put dst (.pointer (some ⟨b, 0, none⟩))) w) :
    ({ dst := dst, op := .fieldAddr 93 x 0, type := t, pos := pos, after := after, guard := none } : Oper).wpIn (Fence.wide.inRound l) m Try.prog a w K Q := by
  refine opIn_of _ (by intro c; simp) ?_ h
  unfold execOp
  simp only [hx]
  go_simp
set_option maxRecDepth 100000 in
theorem opI_appendR {vs vx v' : Value} {w' : World} (hx : a.eval x = vs) (hy : a.eval y = vx) (hr : (Builtin.append_ #[71, 71] t #[vs, vx]).run Try.prog w = .ok v' w') (h : K (a.put dst v') w') :
    ({ dst := dst, op := .call { callee := .builtin .append, args := #[x, y], argTypes := #[71, 71] }, type := t, pos := pos, after := after, guard := none } : Oper).wpIn (Fence.wide.inRound l) m Try.prog a w K Q := by
  refine opIn_of _ (by intro c; simp) (v := v') (w' := w') ?_ h
  unfold execOp
  simp only [resolve, invoke, builtin, Sem.run_bind, Sem.run_pure, Result.andThen_ok, List.map_toArray, List.map_cons, List.map_nil, hx, hy, hr]
set_option maxRecDepth 100000 in
theorem opI_storeR {p : Addr} {A : Option Addr} {n c : Nat} {u : Value} (hx : a.eval x = .pointer (some p)) (hy : a.eval y = .slice A n c) (hc : w.cell? p = some u) (hf : w.frozen? p = false) (h : K a (w.setCell p (.slice A n c))) :
    ({ dst := none, op := .store 71 x y, type := t, pos := pos, after := after, guard := none } : Oper).wpIn (Fence.wide.inRound l) m Try.prog a w K Q := by
  refine ⟨fun _ _ => trivial, ?_⟩
  rw [Fence.inRound_round, Oper.semAt_some l _ _ (by intro c; simp)]
  unfold execOp
  simp only [hx, hy]
  go_simp
  exact h
set_option maxRecDepth 100000 in
theorem opI_lit1 {A : Option Addr} {n c : Nat} (hx : a.eval x = .slice A n c) (h : K (a.put dst (.slice (some ⟨w.heap.size, 0, none⟩) 1 1)) (w.alloc (.cells #[.slice A n c] 22))) :
    ({ dst := dst, op := .buildSlice 71 1 #[(0, x)], type := t, pos := pos, after := after, guard := none } : Oper).wpIn (Fence.wide.inRound l) m Try.prog a w K Q := by
  refine opIn_of _ (by intro c; simp) (w' := w.alloc (.cells #[.slice A n c] 22)) ?_ h
  unfold execOp
  simp only [hx, List.map_toArray, List.map_cons, List.map_nil]
  go_simp
set_option maxRecDepth 100000 in
theorem opI_clone {T : Ending → World → Prop} {vs : Value} (hx : a.eval x = vs) (hc : Calls Try.prog 58 #[vs] w T) (h : ∀ e w', T e w' → ∃ v, e = .returned v ∧ K (a.put dst v) w') :
    ({ dst := dst, op := .call { callee := .value (.func 58), args := #[x], argTypes := #[22] }, type := t, pos := pos, after := after, guard := none } : Oper).wpIn (Fence.wide.inRound l) (m + 1) Try.prog a w K Q := by
  have hf : a.eval (.func 58) = .func (.func 58) #[] #[] := rfl
  refine ⟨fun _ _ => trivial, ?_⟩
  rw [Fence.inRound_round, Oper.semAt_some l _ _ (by intro c; simp)]
  unfold execOp
  simp only [resolve, List.map_toArray, List.map_cons, List.map_nil, hx, hf]
  go_simp
  refine (CallsIn.inRound l (callsIn_wide.2 hc)).mono ?_
  intro e w' hT
  obtain ⟨v, rfl, hK⟩ := h e w' hT
  exact hK
end

abbrev allDs : List Nat := [8, 9, 10, 11, 12, 13]

/-- Blocks that the region leaves alone. -/
structure AllFar (n₀ base b2 Bx : Nat) (fx : Value) (W0 w : World) : Prop where
  below : Below n₀ W0 w
  keeps : KeepsOthers W0 w
  same : ∀ i, i < base → i ≠ b2 → w.heap[i]? = W0.heap[i]?
  size : W0.heap.size ≤ w.heap.size
  box : ∃ v, Whole w Bx 93 #[v, fx]
set_option maxRecDepth 100000 in
theorem AllFar.of_below {n₀ base b2 Bx : Nat} {fx v : Value} {W0 w : World} (hn : n₀ ≤ W0.heap.size) (hb : base ≤ W0.heap.size) (hx : Whole W0 Bx 93 #[v, fx]) (h : Below W0.heap.size W0 w) : AllFar n₀ base b2 Bx fx W0 w :=
  ⟨h.mono hn, keeps_under h, fun i hi _ => h.block i (by omega), h.size, v, hx.under h⟩

/-- What holds behind any operations of the region that have come up. -/
structure AllI (a0 : Act) (n₀ base b2 Bx : Nat) (fx : Value) (W0 : World) (A0 : Option Addr) (c0 : Nat) (Ap : Option Addr) (cp : Nat) (ls : List (List Nat)) (p : List Nat) (L : Nat → Bool) (a : Act) (w : World) : Prop where
  agree : Agree allDs a0 a
  x0 : L 0 = true → a.eval (.tmp 8) = .slice A0 ls.length c0
  x1 : L 1 = true → a.eval (.tmp 9) = .pointer (some ⟨Bx, 0, none⟩)
  x2 : L 2 = true → a.eval (.tmp 10) = .slice Ap p.length cp
  s0 : L 5 = false → Below W0.heap.size W0 w
  s3 : L 3 = true → L 5 = false → ∃ A3 c3, a.eval (.tmp 11) = .slice A3 p.length c3 ∧ w.ownsRow base 5 1 (.slice A3 p.length c3) p.length (bv p)
  s4 : L 4 = true → L 5 = false → ∃ A3 c3 bl, a.eval (.tmp 12) = .slice (some ⟨bl, 0, none⟩) 1 1 ∧ w.cell? ⟨bl, 0, none⟩ = some (.slice A3 p.length c3) ∧ w.ownsRow base 5 1 (.slice A3 p.length c3) p.length (bv p)
  s5 : L 5 = true → ∃ A1 c1, a.eval (.tmp 13) = .slice A1 (ls.length + 1) c1 ∧ AllFar n₀ base b2 Bx fx W0 w ∧ RowsAt base w (.slice A1 (ls.length + 1) c1) (ls ++ [p]) ∧ Whole w b2 71 #[if L 6 = true then .slice A1 (ls.length + 1) c1 else .slice A0 ls.length c0]

set_option maxRecDepth 100000 in
theorem all_region {ops : Array Oper} {Q : Exit → Act → World → Prop} {id m l : Nat} (hsize : ops.size = 7) (hlow : lowOnly ops = true)
    (o0 : At ops 0 (some 8) (.load 71 (.tmp 2)) 71 [])
    (o1 : At ops 1 (some 9) (.fieldAddr 93 (.tmp 4) 0) 0 [])
    (o2 : At ops 2 (some 10) (.load 22 (.tmp 9)) 22 [1])
    (o3 : At ops 3 (some 11) (.call { callee := .value (.func 58), args := #[.tmp 10], argTypes := #[22] }) 22 [2])
    (o4 : At ops 4 (some 12) (.buildSlice 71 1 #[(0, .tmp 11)]) 71 [3])
    (o5 : At ops 5 (some 13) (.call { callee := .builtin .append, args := #[.tmp 8, .tmp 12], argTypes := #[71, 71] }) 71 [0, 4])
    (o6 : At ops 6 none (.store 71 (.tmp 2) (.tmp 13)) 0 [5])
    (a0 : Act) (hds : ∀ d ∈ allDs, d < a0.tmps.size) (n₀ base b2 Bx : Nat) (fx : Value) (W0 : World) (A0 : Option Addr) (c0 : Nat) (Ap : Option Addr) (cp : Nat) (ls : List (List Nat)) (p : List Nat)
    (h2 : a0.eval (.tmp 2) = .pointer (some ⟨b2, 0, none⟩)) (h4 : a0.eval (.tmp 4) = .pointer (some ⟨Bx, 0, none⟩))
    (hb2 : Whole W0 b2 71 #[.slice A0 ls.length c0]) (hbx : Whole W0 Bx 93 #[.slice Ap p.length cp, fx]) (hbs : base ≤ W0.heap.size) (hn0 : n₀ ≤ b2) (hnb : n₀ ≤ base)
    (hrows : RowsAt base W0 (.slice A0 ls.length c0) ls) (hr : Rd W0 n₀ Ap p.length (bv p)) (hlen : ls.length ≤ 1000000) (hp : p.length ≤ 4000)
    (fin : ∀ σ w A1 c1, AllFar n₀ base b2 Bx fx W0 w → RowsAt base w (.slice A1 (ls.length + 1) c1) (ls ++ [p]) → Whole w b2 71 #[.slice A1 (ls.length + 1) c1] → Q .normal (lay σ allDs a0) w) :
    (Code.region id ops true).wpIn (Fence.wide.inRound l) (m + 1) Try.prog Q a0 W0 := by
  refine region_cloIn (by kernel_rfl) hlow (fun L a w => AllI a0 n₀ base b2 Bx fx W0 A0 c0 Ap cp ls p L a w) ?_ ?_ ?_
  · exact ⟨Agree.refl _ _, by simp, by simp, by simp, fun _ => (Below.refl _ _).drew, by simp, by simp, by simp⟩
  · rintro i o L a w ho hi hclo hall I
    have hlt : i < 7 := by rw [← hsize]; exact (Array.getElem?_eq_some_iff.1 ho).1
    have hz : ∀ d ∈ allDs, d < a.tmps.size := fun d hd => by rw [I.agree.size]; exact hds d hd
    rcases (by omega : i = 0 ∨ i = 1 ∨ i = 2 ∨ i = 3 ∨ i = 4 ∨ i = 5 ∨ i = 6) with rfl | rfl | rfl | rfl | rfl | rfl | rfl
    · have hd := o0.needs ho hall
      refine o0.runIn fun pos after => opI_load_rows (by rw [I.agree.eval (by decide)]; exact h2) ((hb2.under (I.s0 (o5.not hclo (j := 0) (by simp) hi))).cell 0) ⟨I.agree.put (by decide) _, ?_, ?_, ?_, ?_, ?_, ?_, ?_⟩
      · intro _; exact eval_new (hz _ (by decide)) _
      · simpa [eval_old] using I.x1
      · simpa [eval_old] using I.x2
      · simpa [eval_old] using I.s0
      · simpa [eval_old] using I.s3
      · simpa [eval_old] using I.s4
      · simpa [eval_old] using I.s5
    · have hd := o1.needs ho hall
      refine o1.runIn fun pos after => opI_fieldF (by rw [I.agree.eval (by decide)]; exact h4) ⟨I.agree.put (by decide) _, ?_, ?_, ?_, ?_, ?_, ?_, ?_⟩
      · simpa [eval_old] using I.x0
      · intro _; exact eval_new (hz _ (by decide)) _
      · simpa [eval_old] using I.x2
      · simpa [eval_old] using I.s0
      · simpa [eval_old] using I.s3
      · simpa [eval_old] using I.s4
      · simpa [eval_old] using I.s5
    · have hd := o2.needs ho hall
      refine o2.runIn fun pos after => opI_load_sl (I.x1 (hd 1 (by simp))) ((hbx.under (I.s0 (o5.not hclo (j := 4) (by simp) (o4.not hclo (j := 3) (by simp) (o3.not hclo (j := 2) (by simp) hi))))).cell 0) ⟨I.agree.put (by decide) _, ?_, ?_, ?_, ?_, ?_, ?_, ?_⟩
      · simpa [eval_old] using I.x0
      · simpa [eval_old] using I.x1
      · intro _; exact eval_new (hz _ (by decide)) _
      · simpa [eval_old] using I.s0
      · simpa [eval_old] using I.s3
      · simpa [eval_old] using I.s4
      · simpa [eval_old] using I.s5
    · have hd := o3.needs ho hall
      have n4 := o4.not hclo (j := 3) (by simp) hi
      have n5 := o5.not hclo (j := 4) (by simp) n4
      have hw := I.s0 n5
      refine o3.runIn fun pos after => opI_clone (I.x2 (hd 2 (by simp))) (clone_any Ap p.length cp p W0.heap.size w ((hr.more (Nat.le_trans hnb hbs)).below hw) (by omega)) ?_
      rintro e w' ⟨A3, c3, rfl, hI3⟩
      have hw' : Below W0.heap.size W0 w' := hw.trans (hI3.2.1.mono hw.size)
      refine ⟨_, rfl, I.agree.put (by decide) _, ?_, ?_, ?_, ?_, ?_, ?_, ?_⟩
      · simpa [eval_old] using I.x0
      · simpa [eval_old] using I.x1
      · simpa [eval_old] using I.x2
      · intro _; exact hw'
      · intro _ _
        exact ⟨A3, c3, eval_new (hz _ (by decide)) _, own_weaker hI3.1 (Nat.le_trans hbs hw.size)⟩
      · intro h; simp [n4] at h
      · intro h; simp [n5] at h
    · have hd := o4.needs ho hall
      have n5 := o5.not hclo (j := 4) (by simp) hi
      have hw := I.s0 n5
      obtain ⟨A3, c3, he, ho3⟩ := I.s3 (hd 3 (by simp)) n5
      refine o4.runIn fun pos after => opI_lit1 he ⟨I.agree.put (by decide) _, ?_, ?_, ?_, ?_, ?_, ?_, ?_⟩
      · simpa [eval_old] using I.x0
      · simpa [eval_old] using I.x1
      · simpa [eval_old] using I.x2
      · intro _; exact hw.alloc hw.size _
      · intro _ _
        exact ⟨A3, c3, by simpa [eval_old] using he, ho3.alloc _⟩
      · intro _ _
        exact ⟨A3, c3, w.heap.size, eval_new (hz _ (by decide)) _, cell_new w _ _ 0, ho3.alloc _⟩
      · intro h; simp [n5] at h
    · have hd := o5.needs ho hall
      have n6 := o6.not hclo (j := 5) (by simp) hi
      have hw := I.s0 hi
      obtain ⟨A3, c3, bl, he, hcell, ho3⟩ := I.s4 (hd 4 (by simp)) hi
      have hR : RowsAt base w (.slice A0 ls.length c0) ls := hrows.under hw
      obtain ⟨A1, c1, w', hrun, hR', hg, hT⟩ := rows_app w base _ ls hR bl A3 p.length c3 p hcell ho3 hlen (Nat.le_trans hbs hw.size)
      have hb2' := hT b2 _ _ (hb2.under hw) (by decide)
      have hbx' := hT Bx _ _ (hbx.under hw) (by decide)
      have hlow : ∀ k, (Value.slice A0 ls.length c0).ownBlock = some k → base ≤ k := fun k e => by
        obtain ⟨es, h1, _⟩ := hR
        exact (h1.lt k e).1
      have hfar : AllFar n₀ base b2 Bx fx W0 w' := by
        refine ⟨(hw.mono (by omega)).grown hg (by have := hw.size; omega) (fun k e => Nat.le_trans hnb (hlow k e)), (keeps_under hw).trans ?_, fun i hi' _ => ?_, by have := hg.size; have := hw.size; omega, _, hbx'⟩
        · obtain ⟨es, h1, _⟩ := hR
          exact keeps_row h1 hg
        · rw [hg.block i (by have := hw.size; omega) (fun e => by have := hlow i e.symm; omega), hw.block i (by omega)]
      refine o5.runIn fun pos after => opI_appendR (I.x0 (hd 0 (by simp))) he hrun ⟨I.agree.put (by decide) _, ?_, ?_, ?_, ?_, ?_, ?_, ?_⟩
      · simpa [eval_old] using I.x0
      · simpa [eval_old] using I.x1
      · simpa [eval_old] using I.x2
      · simp
      · simp
      · simp
      · intro _
        refine ⟨A1, c1, eval_new (hz _ (by decide)) _, hfar, hR', ?_⟩
        simpa [n6] using hb2'
    · have hd := o6.needs ho hall
      have d5 := hd 5 (by simp)
      obtain ⟨A1, c1, he, hf, hR, hb⟩ := I.s5 d5
      rw [hi] at hb
      simp only [Bool.false_eq_true, if_false] at hb
      refine o6.runIn fun pos after => opI_storeR (by rw [I.agree.eval (by decide)]; exact h2) he (hb.cell 0) (hb.frozen 0) ⟨I.agree, ?_, ?_, ?_, ?_, ?_, ?_, ?_⟩
      · simpa using I.x0
      · simpa using I.x1
      · simpa using I.x2
      · intro h; simp [d5] at h
      · intro _ h; simp [d5] at h
      · intro _ h; simp [d5] at h
      · intro _
        have hset := hb.set 0 (.slice A1 (ls.length + 1) c1)
        simp only [List.setIfInBounds_toArray, List.set_cons_zero] at hset
        refine ⟨A1, c1, he, ⟨hf.below.setCell (p := ⟨b2, 0, none⟩) hn0 _, hf.keeps.trans (KeepsOthers.setCell _ _ _), fun i hi' hne => (Below.heap_setCell w ⟨b2, 0, none⟩ _ i hne).trans (hf.same i hi' hne), by simpa [World.setCell] using hf.size, ?_⟩, hR.far hb (by decide) (by decide) 0 _, ?_⟩
        · obtain ⟨v, hv⟩ := hf.box
          refine ⟨v, hv.far (p := ⟨b2, 0, none⟩) (fun e => ?_) _⟩
          unfold Whole at hv hb
          simp only at e
          rw [e, hb] at hv
          injection hv with hv
          injection hv with _ h9 _
          exact absurd h9 (by decide)
        · simpa using hset
  · intro L a w hall I
    obtain ⟨A1, c1, he, hf, hR, hb⟩ := I.s5 (hall 5 (by omega))
    rw [hall 6 (by omega), if_pos rfl] at hb
    rw [I.agree.lay hds]
    exact fin _ w A1 c1 hf hR hb

end Go.Proofs.Ytbkfpghpfaemeaa

/-
  The walk of 'All' of package frame. Conditions: those that each theorem names.
-/
namespace Go.Proofs.Ytbkfpghpfaemeaa
open Go.RowKit Go.Shelf
attribute [local go_sem] Oper.semAt_some

def usedOf (l : List (List Nat)) : Nat := (l.flatMap fr).length
set_option maxRecDepth 100000 in
theorem usedOf_snoc (l : List (List Nat)) (p : List Nat) : usedOf (l ++ [p]) = usedOf l + frLen p.length := by simp [usedOf, fr_length]
set_option maxRecDepth 100000 in
theorem frLen_le {n : Nat} (h : n ≤ 4000) : frLen n ≤ 4006 := by have := put_two h; unfold frLen; omega
set_option maxRecDepth 100000 in
theorem usedOf_le (l : List (List Nat)) (h : ∀ p ∈ l, p.length ≤ 4000) : usedOf l ≤ 4006 * l.length := by
  induction l with
  | nil => simp [usedOf]
  | cons p l ih =>
    have h1 := ih (fun q hq => h q (List.mem_cons_of_mem _ hq))
    have h2 := frLen_le (h p (by simp))
    simp only [usedOf, List.flatMap_cons, List.length_append, fr_length, List.length_cons] at *
    omega
set_option maxRecDepth 100000 in
theorem usedOf_ge (l : List (List Nat)) : 5 * l.length ≤ usedOf l := by
  induction l with
  | nil => simp [usedOf]
  | cons p l ih =>
    have h2 := frLen_pos p.length
    simp only [usedOf, List.flatMap_cons, List.length_append, fr_length, List.length_cons] at *
    omega

set_option maxRecDepth 100000 in
/-- A store of what is there. -/
theorem Whole.set_same {w : World} {b : Nat} {t : TypeId} {cs : Array Value} (h : Whole w b t cs) (i : Nat) (v : Value) (hv : cs[i]? = some v) : w.setCell ⟨b, i, none⟩ v = w := by
  unfold Whole at h
  have e : (w.setCell ⟨b, i, none⟩ v).heap = w.heap := by
    refine Array.ext_getElem? fun j => ?_
    by_cases hj : j = b
    · subst hj
      have h1 : (w.setCell ⟨j, i, none⟩ v).heap[j]? = some (.cells (cs.setIfInBounds i v) t (0, 0)) := by simp [World.setCell, Array.getElem?_modify, h]
      rw [h1, h]
      congr 2
      refine Array.ext_getElem? fun k => ?_
      by_cases hk : i = k
      · subst hk
        have hlt : i < cs.size := (Array.getElem?_eq_some_iff.1 hv).1
        rw [Array.getElem?_setIfInBounds_self_of_lt hlt, hv]
      · rw [Array.getElem?_setIfInBounds_ne hk]
    · exact Below.heap_setCell w ⟨b, i, none⟩ v j hj
  cases w
  simp only [World.setCell] at e ⊢
  rw [e]

/-- What holds between two rounds. -/
structure AllAt (w w0 : World) (base Bs : Nat) (A : Option Addr) (n c : Nat) (pre : List (FrAt w0 w.heap.size)) (W : World) : Prop where
  res : ∃ v, Whole W w.heap.size 71 #[v] ∧ RowsAt base W v (pays pre)
  used : Whole W (w.heap.size + 1) 3 #[.int .i64 (usedOf (pays pre) : Int)]
  bn : Whole W (w.heap.size + 1 + 1) 22 #[.slice A n c]
  many : ∀ p ∈ pays pre, p.length ≤ 4000
  below : Below w.heap.size w W
  size : base ≤ W.heap.size
set_option maxRecDepth 100000 in
theorem allAt_own (w w0 : World) (base Bs : Nat) (A : Option Addr) (n c : Nat) (B : Nat) (hB : w.heap.size ≤ B) : OwnFrom B (AllAt w w0 base Bs A n c) := by
  intro pre W1 W2 row h hg hr
  have hr' : ∀ r, row = some r → ∃ o : Obj, W1.heap[r]? = some o ∧ o.isCells = false := fun r e => (hr r e).2
  obtain ⟨v, h1, h2⟩ := h.res
  exact ⟨⟨v, h1.turn hg hr', h2.turn hg hr'⟩, h.used.turn hg hr', h.bn.turn hg hr', h.many, h.below.grown hg h.below.size (fun k e => by have := (hr k e).1; omega), Nat.le_trans h.size hg.size⟩

/-- The payloads, and how many bytes they have. -/
def AllPost (l : List (List Nat)) (used : Nat) (w : World) (e : Ending) (w' : World) : Prop :=
  ∃ A c, e = .returned (.tuple #[.slice A l.length c, .int .i64 (used : Int)]) ∧ RowsAt w.heap.size w' (.slice A l.length c) l ∧ Below w.heap.size w w'

set_option maxRecDepth 100000 in
set_option maxHeartbeats 1000000 in
theorem frAll_any (A : Option Addr) (n c : Nat) (bs : List Nat) (L : List (List Nat)) (used : Nat) (B : Nat) (w : World) (hall : AllIs bs L used) (hr : Rd w B A n (bv bs)) (hB : B ≤ w.heap.size) (hb : ∀ x ∈ bs, x < 256) (hn : n ≤ 1000000) (hc : n ≤ c) :
    Calls Try.prog 40 #[.slice A n c] w (AllPost L used w) := by
  have hL : L.length ≤ 200000 := by
    have h1 := usedOf_ge L
    have h2 := hall.1
    have h3 : bs.length = n := by have := hr.1; rwa [bv_length] at this
    have h4 := congrArg List.length h2
    rw [List.length_append] at h4
    unfold usedOf at h1
    omega
  have HAll := Lib.hid hall
  have HR := Lib.hid (hr.more hB)
  have HBy := Lib.hid hb
  clear hall hr hB hb
  refine (callsIn_wide (n := 6)).1 ?_
  refine callsIn_of_wp_marks Try.func40 rfl trivial ?_ rfl
  simp only [Try.ntmps40, List.size_toArray, List.length_cons, List.length_nil, Nat.reduceAdd, Nat.reduceSub, Array.replicate_succ, Array.replicate_zero, List.push_toArray, List.append_toArray, List.nil_append, List.cons_append]
  gi_wp2_with (refine ⟨trivial, ?_⟩; gi_at_call 57; refine (callsIn_wide.2 (frames_any _ _ _ _)).mono ?_; rintro e w2 ⟨rfl, rfl⟩)
  obtain ⟨W0, hW0⟩ : ∃ W0, ((w.alloc (.cells #[.slice none 0 0] 71)).alloc (.cells #[.int .i64 0] 3)).alloc (.cells #[.slice A n c] 22) = W0 := ⟨_, rfl⟩
  have hs0 : W0.heap.size = w.heap.size + 1 + 1 + 1 := by rw [← hW0]; simp
  have hb0 : Below w.heap.size w W0 := by rw [← hW0]; exact (((Below.refl _ w).alloc (Nat.le_refl _) _).alloc (by simp) _).alloc (by simp; omega) _
  have hinv : AllAt w w W0.heap.size (w.heap.size + 1 + 1) A n c [] W0 := by
    refine ⟨⟨.slice none 0 0, ?_, RowsAt.nil_ _ _⟩, ?_, ?_, by simp [pays], hb0, Nat.le_refl _⟩
    · rw [← hW0]; exact ((Whole.new w _ _).alloc _).alloc _
    · rw [← hW0]; have := (Whole.new (w.alloc (.cells #[.slice none 0 0] 71)) 3 #[.int .i64 0]).alloc (.cells #[.slice A n c] 22); simpa [usedOf, pays] using this
    · rw [← hW0]; have := Whole.new ((w.alloc (.cells #[.slice none 0 0] 71)).alloc (.cells #[.int .i64 0] 3)) 22 #[.slice A n c]; simpa using this
  rw [hW0]
  clear hW0
  refine wpIn_rangeFunc_ownH rfl (by omega) (gf := 73) (lb := #[.pointer (some ⟨w.heap.size + 1 + 1, 0, none⟩)]) rfl trivial (enters_of Try.func73 (by kernel_rfl) rfl)
    (encs := fun x : FrAt w w.heap.size => #[.agg #[.slice x.1.A x.1.p.length x.1.c, .int .i64 (frLen x.1.p.length : Int)]])
    (frames_stops 5 (w.heap.size + 1 + 1) w.heap.size w A n c bs L used hn hc HBy.out HAll.out HR.out W0 (by omega) (by omega) hb0 (by simpa using hinv.bn.cell 0))
    (fun h k => kpB_t h k) (kpB_b (by omega) (by omega)) (Below.refl _ _) (fun _ => rfl)
    (AllAt w w W0.heap.size (w.heap.size + 1 + 1) A n c) (fun _ _ _ => False)
    (allAt_own _ _ _ _ _ _ _ _ (by omega)) (fun k pre W W' row h hg hr => h) hinv
    (fun x a' W => ∃ Bx, W0.heap.size ≤ Bx ∧ Whole W Bx 93 #[.slice x.1.A x.1.p.length x.1.c, .int .i64 (frLen x.1.p.length : Int)] ∧
      a' = { tmps := #[.slice A n c, undef, .pointer (some ⟨w.heap.size, 0, none⟩), .pointer (some ⟨w.heap.size + 1, 0, none⟩), .pointer (some ⟨Bx, 0, none⟩), .slice A n c, .func (.func 73) #[] #[.pointer (some ⟨w.heap.size + 1 + 1, 0, none⟩)], .agg #[.slice x.1.A x.1.p.length x.1.c, .int .i64 (frLen x.1.p.length : Int)], undef, undef, undef, undef, undef, undef, undef, undef, undef, undef, undef, undef], defers := [] })
    (fun x a' _ X Y row hs hg hr => by
      obtain ⟨Bx, h1, h2, h3⟩ := hs
      exact ⟨Bx, h1, h2.turn hg (fun r e => (hr r e).2), h3⟩) ?assign ?body ?done ?stop
  case assign =>
    intro l pre x W K' hI hK
    have hA : ∀ o : Obj, AllAt w w W0.heap.size (w.heap.size + 1 + 1) A n c pre (W.alloc o) := fun o => by
      obtain ⟨v, h1, h2⟩ := hI.res
      exact ⟨⟨v, h1.alloc _, h2.under ((Below.refl _ W).alloc (Nat.le_refl _) o)⟩, hI.used.alloc _, hI.bn.alloc _, hI.many, hI.below.alloc hI.below.size _, by have := hI.size; simp; omega⟩
    gi_wp2
    exact hK _ _ ((KeepsOthers.alloc _ _).from _) ⟨(Below.refl _ W).alloc hI.below.size _, Below.heap_alloc W _ _ (by have := hI.size; omega)⟩ (hA _) ⟨W.heap.size, hI.size, Whole.new W _ _, rfl⟩
  case body =>
    rintro l pre x a' W hl _ hI ⟨Bx, hBx, hX, rfl⟩ hlt
    obtain ⟨v, hv, hrows⟩ := hI.res
    obtain ⟨Av, cv, rfl⟩ := hrows.form
    have hpl : (pays pre).length = pre.length := by simp [pays]
    have hsz := hI.size
    have hul := usedOf_le (pays pre) hI.many
    have HI := Lib.hid hI
    have HX := Lib.hid hX
    have HV := Lib.hid hv
    have HRows := Lib.hid hrows
    have hx4 := x.2.many
    obtain ⟨U, hU⟩ : ∃ U, usedOf (pays pre) = U := ⟨_, rfl⟩
    obtain ⟨F, hF⟩ : ∃ F, frLen x.1.p.length = F := ⟨_, rfl⟩
    have hF6 : F ≤ 4006 := by rw [← hF]; exact frLen_le hx4
    have hUb : U ≤ 4006 * 200000 := by rw [← hU]; omega
    rw [hF] at HX
    have HU := Lib.hid hU
    have HF := Lib.hid hF
    clear hI hX hv hrows hU hF hul
    gi_wp2_with fail
    refine all_region rfl (by kernel_rfl) ⟨_, rfl, rfl, rfl, rfl, rfl, by kernel_rfl⟩ ⟨_, rfl, rfl, rfl, rfl, rfl, by kernel_rfl⟩ ⟨_, rfl, rfl, rfl, rfl, rfl, by kernel_rfl⟩ ⟨_, rfl, rfl, rfl, rfl, rfl, by kernel_rfl⟩ ⟨_, rfl, rfl, rfl, rfl, rfl, by kernel_rfl⟩ ⟨_, rfl, rfl, rfl, rfl, rfl, by kernel_rfl⟩ ⟨_, rfl, rfl, rfl, rfl, rfl, by kernel_rfl⟩ _ ?_ w.heap.size W0.heap.size w.heap.size Bx _ W Av cv x.1.A x.1.c (pays pre) x.1.p rfl rfl HV.out HX.out HI.out.size (Nat.le_refl _) (by omega) HRows.out (x.2.rd.below HI.out.below) (by omega) hx4 ?_
    · intro d hd
      simp only [List.mem_cons, List.not_mem_nil, or_false] at hd
      rcases hd with rfl | rfl | rfl | rfl | rfl | rfl <;> simp
    intro σ W2 A2 c2 hfar hR2 hv2
    have hu2 : Whole W2 (w.heap.size + 1) 3 #[.int .i64 (U : Int)] := by
      have h1 := HI.out.used
      rw [HU.out] at h1
      exact (hfar.same _ (by omega) (by omega)).trans h1
    have hbn2 : Whole W2 (w.heap.size + 1 + 1) 22 #[.slice A n c] := (hfar.same _ (by omega) (by omega)).trans HI.out.bn
    obtain ⟨vx, hbx2⟩ := hfar.box
    have u0 := hu2.cell 0
    have uf := hu2.frozen 0
    have bx1 := hbx2.cell 1
    simp only [List.getElem?_toArray, List.getElem?_cons_zero, List.getElem?_cons_succ] at u0 bx1
    have HFar := Lib.hid hfar
    have HR2 := Lib.hid hR2
    have HV2 := Lib.hid hv2
    have HU2 := Lib.hid hu2
    have HBN2 := Lib.hid hbn2
    clear hfar hR2 hv2 hu2 hbn2 hbx2
    simp only [lay, List.foldl_cons, List.foldl_nil, Act.put, List.setIfInBounds_toArray, List.set_cons_zero, List.set_cons_succ]
    gi_wp2_with fail
    have e1 : (U : Int) + (F : Int) = ((usedOf (pays (pre ++ [x])) : Nat) : Int) := by rw [pays_snoc, usedOf_snoc, HU.out, HF.out]; omega
    rw [e1]
    have hu3 := HU2.out.set 0 (.int .i64 ((usedOf (pays (pre ++ [x])) : Nat) : Int))
    simp only [List.setIfInBounds_toArray, List.set_cons_zero] at hu3
    refine ⟨(HFar.out.keeps.trans (KeepsOthers.setCell _ _ _)).from _, ⟨HFar.out.below.setCell (p := ⟨w.heap.size + 1, 0, none⟩) (by simp) _, ?_⟩, ?_⟩
    · exact ((Below.heap_setCell W2 ⟨w.heap.size + 1, 0, none⟩ _ _ (by simp)).trans (HFar.out.same _ (by omega) (by omega)))
    · refine ⟨⟨.slice A2 ((pays pre).length + 1) c2, HV2.out.far (p := ⟨w.heap.size + 1, 0, none⟩) (by simp) _, ?_⟩, hu3, HBN2.out.far (p := ⟨w.heap.size + 1, 0, none⟩) (by simp) _, ?_, (HI.out.below.trans HFar.out.below).setCell (p := ⟨w.heap.size + 1, 0, none⟩) (by simp) _, ?_⟩
      · rw [pays_snoc]; exact HR2.out.far HU2.out (by decide) (by decide) 0 _
      · intro p hp
        rw [pays_snoc] at hp
        rcases List.mem_append.1 hp with hp | hp
        · exact HI.out.many p hp
        · simp only [List.mem_singleton] at hp; subst hp; exact hx4
      · have h1 := HFar.out.size
        simpa [World.setCell] using Nat.le_trans hsz h1
  case done =>
    rintro D ys W1 hD hys hI hK
    obtain ⟨v, hv, hrows⟩ := hI.res
    rw [hys] at hrows
    obtain ⟨Av, cv, rfl⟩ := hrows.form
    have hu := hI.used
    rw [hys] at hu
    have hU : usedOf L = used := HAll.out.2.1.symm
    rw [hU] at hu
    have v0 := hv.cell 0
    have vf := hv.frozen 0
    have u0 := hu.cell 0
    have uf := hu.frozen 0
    simp only [List.getElem?_toArray, List.getElem?_cons_zero] at v0 u0
    have HV := Lib.hid hv
    have HU := Lib.hid hu
    have HRows := Lib.hid hrows
    have HI := Lib.hid hI
    have HK := Lib.hid hK
    have e2 := hv.set_same 0 (.slice Av L.length cv) rfl
    have e3 := hu.set_same 0 (.int .i64 (used : Int)) rfl
    have E2 := Lib.hid e2
    have E3 := Lib.hid e3
    clear e2 e3
    have hmix : Try.prog.follows .mixedOrders = true := by kernel_rfl
    clear hv hu hrows hI hK hU hys
    gi_wp2_with fail
    gi_region_with_o (fail)
    all_goals gi_wp2
    all_goals
      rw [E2.out, E3.out]
      have hK1 : W1.drew.heap[D]? = some (.deferred (some [])) := HK.out
      have hg' := grownBy_putObj' W1.drew D (.deferred none)
      have hr' : ∀ r, (some D) = some r → ∃ o : Obj, W1.drew.heap[r]? = some o ∧ o.isCells = false := fun r e => by cases e; exact ⟨_, hK1, rfl⟩
      have q2 := (Whole.turn (W := W1.drew) HV.out hg' hr').cell 0
      have q3 := (Whole.turn (W := W1.drew) HU.out hg' hr').cell 0
      simp only [List.getElem?_toArray, List.getElem?_cons_zero] at q2 q3
      refine ⟨by simp, .inl ⟨_, _, rfl, run_takeDeferred hK1, ?_⟩⟩
      refine ⟨.tuple #[.slice Av L.length cv, .int .i64 (used : Int)], by simp [results, Try.results40, go_sem, q2, q3], Av, cv, rfl, ?_, ?_⟩
      · exact ((HRows.out.under (Below.refl _ W1).drew).turn hg' hr').weaker (by omega)
      · exact HI.out.below.drew.trans ((Below.refl _ _).grown hg' HI.out.below.size (fun k e => by cases e; omega))
  case stop =>
    rintro D k pre W hD hpre hO hK
    exact hO.elim

end Go.Proofs.Ytbkfpghpfaemeaa
