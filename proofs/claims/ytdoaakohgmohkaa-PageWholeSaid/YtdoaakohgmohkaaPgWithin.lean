/-
  The walks of 'within' of package page and of the iterator that it hands back: what stands on pages, one behind the other. Conditions: those that each theorem names.
-/
import Derived.Test.YtdoaakohgmohkaaPgSeen
import Derived.Test.YtdoaakohgmohkaaPgOne
import Derived.Test.YtdoaakohgmohkaaRangeMem
import Derived.LoopIn
namespace Go.Proofs.Ytdoaakohgmohkaa
open Go.RowKit Go.Shelf
attribute [local go_sem] Oper.semAt_some

/-- A slice of what is shown that reads as the list l, in a block of which G holds. -/
def RdG (w : World) (G : Nat → Prop) (A : Option Addr) (n : Nat) (l : List Sn) : Prop :=
  l.length = n ∧ (0 < n → ∃ b off, A = some ⟨b, off, none⟩ ∧ G b ∧ ∀ j x, l[j]? = some x → SnAt w b (off + j * 7) x)
/-- What a round keeps: the blocks of which G holds. -/
def KpG (G : Nat → Prop) (W W' : World) : Prop := W.heap.size ≤ W'.heap.size ∧ ∀ b, G b → W'.heap[b]? = W.heap[b]?
section
variable {G : Nat → Prop} {W W' W'' : World} {A : Option Addr} {n : Nat} {l : List Sn}
set_option maxRecDepth 100000 in
theorem kpG_t (h : KpG G W W') (k : KpG G W' W'') : KpG G W W'' := ⟨Nat.le_trans h.1 k.1, fun b hb => (k.2 b hb).trans (h.2 b hb)⟩
set_option maxRecDepth 100000 in
theorem kpG_refl : KpG G W W := ⟨Nat.le_refl _, fun _ _ => rfl⟩
set_option maxRecDepth 100000 in
theorem kpG_b {w : World} (hG : ∀ b, G b → b < w.heap.size) (W : World) (i : Nat) (o o' : Obj) (hl : w.heap.size ≤ i) (_ : W.heap[i]? = some o) (_ : o.isCells = false) (_ : o.isWalk = false) : KpG G W (W.putObj i o') :=
  ⟨by simp [World.putObj], fun b hb => World.putObj_heap_other (by have := hG b hb; omega)⟩
set_option maxRecDepth 100000 in
theorem kpG_under (hG : ∀ b, G b → b < W.heap.size) (h : Below W.heap.size W W') : KpG G W W' := ⟨h.size, fun b hb => h.block b (hG b hb)⟩
set_option maxRecDepth 100000 in
theorem kpG_set (g i : Nat) (hg : ¬ G g) (v : Value) : KpG G W (W.setCell ⟨g, i, none⟩ v) := ⟨by simp, fun b hb => Below.heap_setCell W ⟨g, i, none⟩ v b (fun e => hg (by subst e; exact hb))⟩
set_option maxRecDepth 100000 in
theorem RdG.kept (h : RdG W G A n l) (hk : KpG G W W') : RdG W' G A n l :=
  ⟨h.1, fun hn => by
    obtain ⟨b, off, e, hb, hc⟩ := h.2 hn
    exact ⟨b, off, e, hb, fun j x hx => snAt_of fun i hi => (World.cell?_of_block (a := ⟨b, off + j * 7 + i, none⟩) (hk.2 b hb)).trans ((hc j x hx).all i hi)⟩⟩
set_option maxRecDepth 100000 in
theorem RdG.of {B : Nat} (h : RdSn W B A n l) (hG : ∀ b, b < B → G b) : RdG W G A n l :=
  ⟨h.1, fun hn => by
    obtain ⟨b, off, e, hb, hc⟩ := h.2 hn
    exact ⟨b, off, e, hG b hb, hc⟩⟩
end

/-- A page, as an element of a slice of pages. -/
structure PE where
  A : Option Addr
  n : Nat
  c : Nat
  ps : List Sn
def PE.val (x : PE) : Value := .slice x.A x.n x.c
/-- All that stands on pages, one behind the other. -/
def joinP (l : List PE) : List Sn := l.flatMap fun x => x.ps
set_option maxRecDepth 100000 in
theorem joinP_snoc (l : List PE) (x : PE) : joinP (l ++ [x]) = joinP l ++ x.ps := by simp [joinP]
set_option maxRecDepth 100000 in
theorem joinP_take {l : List PE} {k : Nat} {x : PE} (h : l[k]? = some x) : joinP (l.take (k + 1)) = joinP (l.take k) ++ x.ps := by
  have hk : k < l.length := (List.getElem?_eq_some_iff.1 h).1
  rw [List.getElem?_eq_getElem hk] at h
  rw [List.take_succ_eq_append_getElem hk, joinP_snoc, Option.some.inj h]
set_option maxRecDepth 100000 in
theorem joinP_prefix {l : List PE} {k : Nat} {x : PE} (h : l[k]? = some x) (j : Nat) : joinP (l.take k) ++ x.ps.take j <+: joinP l := by
  have e : joinP l = joinP (l.take (k + 1)) ++ joinP (l.drop (k + 1)) := by unfold joinP; rw [← List.flatMap_append, List.take_append_drop]
  rw [e, joinP_take h]
  refine ⟨x.ps.drop j ++ joinP (l.drop (k + 1)), ?_⟩
  simp only [List.append_assoc]
  rw [← List.append_assoc (x.ps.take j), List.take_append_drop]
/-- A slice of pages that reads as the list l, in blocks of which G holds. -/
def RdP (w : World) (G : Nat → Prop) (A : Option Addr) (n : Nat) (l : List PE) : Prop :=
  l.length = n ∧ (0 < n → ∃ b off, A = some ⟨b, off, none⟩ ∧ G b ∧ ∀ j x, l[j]? = some x → w.cell? ⟨b, off + j, none⟩ = some (.slice x.A x.n x.c)) ∧ ∀ x ∈ l, RdG w G x.A x.n x.ps
set_option maxRecDepth 100000 in
theorem RdP.kept {W W' : World} {G : Nat → Prop} {A : Option Addr} {n : Nat} {l : List PE} (h : RdP W G A n l) (hk : KpG G W W') : RdP W' G A n l :=
  ⟨h.1, fun hn => by
    obtain ⟨b, off, e, hb, hc⟩ := h.2.1 hn
    exact ⟨b, off, e, hb, fun j x hx => (World.cell?_of_block (a := ⟨b, off + j, none⟩) (hk.2 b hb)).trans (hc j x hx)⟩,
   fun x hx => (h.2.2 x hx).kept hk⟩

def WithinPost (A : Option Addr) (n c : Nat) (w : World) (e : Ending) (w' : World) : Prop :=
  e = .returned (.func (.func 27) #[] #[.pointer (some ⟨w.heap.size, 0, none⟩)]) ∧ w' = w.alloc (.cells #[.slice A n c] 27)
set_option maxRecDepth 100000 in
theorem within_any (A : Option Addr) (n c : Nat) (w : World) : Calls Try.prog 21 #[.slice A n c] w (WithinPost A n c w) := by
  go_enter Try.func21, Try.ntmps21
  go_wp2
  go_ret
  exact ⟨rfl, rfl⟩

/-- Where the iterator stands: page i, at j. -/
structure WiAt (Bp : Nat) (G : Nat → Prop) (A : Option Addr) (n c : Nat) (l : List PE) (J : List Sn → World → Prop) (W0 : World) (i : Nat) (pre : List Sn) (W : World) : Prop where
  le : i ≤ n
  bn : Whole W Bp 27 #[.slice A n c]
  rd : RdP W G A n l
  sz : W0.heap.size ≤ W.heap.size
  inv : J (joinP (l.take i) ++ pre) W
section
variable {Bp : Nat} {G : Nat → Prop} {A : Option Addr} {n c : Nat} {l : List PE} {J : List Sn → World → Prop} {W0 : World} {i : Nat} {pre : List Sn} {W W' : World}
set_option maxRecDepth 100000 in
theorem WiAt.up (h : WiAt Bp G A n c l J W0 i pre W) (hJ : AbidesFrom W0.heap.size J) (hG : ∀ b, G b → b < W0.heap.size) (hb : Below W.heap.size W W') : WiAt Bp G A n c l J W0 i pre W' :=
  ⟨h.le, h.bn.under hb, h.rd.kept (kpG_under (fun b hb => Nat.lt_of_lt_of_le (hG b hb) h.sz) hb), Nat.le_trans h.sz hb.size, hJ _ W W' none h.inv ⟨hb.os, hb.tape, hb.output, hb.size, fun i hi _ => hb.block i hi⟩ (fun r e => by cases e)⟩
end

def WiIter (lp Bp : Nat) (G : Nat → Prop) (A : Option Addr) (n c : Nat) (l : List PE) (J : List Sn → World → Prop) (W0 : World) (a' : Act) (w' : World) : Prop :=
  ∃ (i : Nat) (u4 u5 u6 u7 u8 u9 u10 u11 u12 u13 u14 u15 u16 u17 u18 u19 u20 u21 u22 u23 u24 u25 : Value), a' = { tmps := #[.func (.yield lp) #[] #[], .pointer (some ⟨Bp, 0, none⟩), undef, .int .i64 (i : Int), u4, u5, u6, u7, u8, u9, u10, u11, u12, u13, u14, u15, u16, u17, u18, u19, u20, u21, u22, u23, u24, u25], defers := [] } ∧ WiAt Bp G A n c l J W0 i [] w'

set_option maxRecDepth 100000 in
set_option maxHeartbeats 2000000 in
theorem within1_in (m lp Bp : Nat) (G : Nat → Prop) (A : Option Addr) (n c : Nat) (l : List PE) (hn : n ≤ 1000) (hsm : ∀ x ∈ l, x.n ≤ 1000) (J : List Sn → World → Prop) (Jx : World → Prop) (W0 : World) (hJ : AbidesFrom W0.heap.size J) (hG : ∀ b, G b → b < W0.heap.size) (hGp : G Bp)
    (hY : ∀ pre x W, J pre W → (pre ++ [x] <+: joinP l) → YieldAt Fence.wide (m - 1) Try.prog lp #[.agg x.vs.toArray] W fun e W' =>
      (e = .returned (.bool true) ∧ J (pre ++ [x]) W' ∧ KpG G W W') ∨ (e = .returned (.bool false) ∧ Jx W'))
    (hBn : Whole W0 Bp 27 #[.slice A n c]) (hr : RdP W0 G A n l) (h0 : J [] W0) :
    CallsIn Fence.wide m Try.prog 27 #[.func (.yield lp) #[] #[], .pointer (some ⟨Bp, 0, none⟩)] W0 fun e W' => (∃ v, e = .returned v) ∧
      ((∃ ys : List Sn, ys = joinP l ∧ J ys W') ∨ Jx W') := by
  have HY := Lib.hid hY
  have HJ := Lib.hid hJ
  have HG := Lib.hid hG
  have HGp := Lib.hid hGp
  have HSm := Lib.hid hsm
  have HI0 : Hid (WiAt Bp G A n c l J W0 0 [] W0) := Lib.hid ⟨Nat.zero_le _, hBn, hr, Nat.le_refl _, h0⟩
  clear hY hJ hG hGp hr h0 hBn hsm
  refine callsIn_of_wp Try.func27 rfl trivial ?_ rfl
  simp only [Try.ntmps27, List.size_toArray, List.length_cons, List.length_nil, Nat.reduceAdd, Nat.reduceSub, Array.replicate_succ, Array.replicate_zero, List.push_toArray, List.append_toArray, List.nil_append, List.cons_append]
  gi_wp2_with fail
  refine wpIn_wide.2 (wp_scope_back_behind 0 (WiIter lp Bp G A n c l J W0)
    (fun a' _ => n - (intOf (a'.tmps.getD 3 undef)).toNat) rfl ?ahead (fun a' w' hJ' => wpIn_wide (n := m).1 ?pass))
  case ahead =>
    go_wp2_with fail
    exact ⟨0, _, _, _, _, _, _, _, _, _, _, _, _, _, _, _, _, _, _, _, _, _, _, rfl, HI0.out⟩
  case pass =>
    clear HI0
    obtain ⟨i, u4, u5, u6, u7, u8, u9, u10, u11, u12, u13, u14, u15, u16, u17, u18, u19, u20, u21, u22, u23, u24, u25, rfl, hI⟩ := hJ'
    have c0 := hI.bn.cell 0
    simp only [List.getElem?_toArray, List.getElem?_cons_zero] at c0
    have HI := Lib.hid hI
    by_cases hlt : i < n
    rotate_left
    · have HE : Hid (i = n) := Lib.hid (by have := hI.le; omega)
      have hne : ((i : Int) == (n : Int)) = true := by have := HE.out; simp; omega
      clear hI hlt
      gi_wp2_with fail
      simp only [Exit.jump]
      refine bodyPost_ret (results_none rfl _ _ _) rfl ?_
      refine ⟨⟨_, rfl⟩, .inl ⟨_, rfl, ?_⟩⟩
      have := HI.out.inv
      rw [List.append_nil, HE.out, List.take_of_length_le (by rw [HI.out.rd.1]; exact Nat.le_refl _)] at this
      exact this
    · have hne : ((i : Int) == (n : Int)) = false := by simp; omega
      have hiL : (i : Int) < (n : Int) := by omega
      obtain ⟨x, hx⟩ : ∃ x, l[i]? = some x := ⟨_, List.getElem?_eq_getElem (by rw [hI.rd.1]; exact hlt)⟩
      obtain ⟨b, off, rfl, hb, hc⟩ := hI.rd.2.1 (by omega)
      have p0 := hc i x hx
      have hxn := HSm.out x (List.mem_of_getElem? hx)
      have HX := Lib.hid hx
      have HLt := Lib.hid hlt
      clear hI hc hx hlt hb
      obtain ⟨Ax, nx, cx, ps⟩ := x
      simp only at p0 hxn
      gi_wp2_with fail
      gi_loopw [15] (fun q wr => ∃ j : Nat, q = .int .i64 (j : Int) ∧ j ≤ nx ∧ WiAt Bp G (some ⟨b, off, none⟩) n c l J W0 i (ps.take j) wr) (fun q _ => nx - (intOf q).toNat)
      case atStart => exact ⟨0, rfl, Nat.zero_le _, HI.out⟩
      case round =>
        clear HI c0
        obtain ⟨j, rfl, hj, hI⟩ := hrel
        have HI := Lib.hid hI
        by_cases hjl : j < nx
        rotate_left
        · have hge : decide (j < nx) = false := by simp; omega
          have HE : Hid (j = nx) := Lib.hid (by omega)
          have hps : ps.length = nx := (hI.rd.2.2 _ (List.mem_of_getElem? HX.out)).1
          have HPs := Lib.hid hps
          clear hI hjl hj hps
          gi_wp2_with fail
          refine wpIn_goto ?_
          have el : ((i : Int) + 1) = ((i + 1 : Nat) : Int) := by simp
          rw [el]
          refine ⟨rfl, ⟨i + 1, _, _, _, _, _, _, _, _, _, _, _, _, _, _, _, _, _, _, _, _, _, _, rfl, ?_⟩, by simp [intOf]; omega⟩
          have hin := HI.out.inv
          have htk : ps.take j = ps := List.take_of_length_le (by rw [HPs.out, HE.out]; exact Nat.le_refl _)
          rw [htk] at hin
          exact ⟨by omega, HI.out.bn, HI.out.rd, HI.out.sz, by rw [List.append_nil, joinP_take HX.out]; exact hin⟩
        · have hjI : (j : Int) < (nx : Int) := by omega
          have hrd := hI.rd.2.2 _ (List.mem_of_getElem? HX.out)
          obtain ⟨s, hs⟩ : ∃ s, ps[j]? = some s := ⟨_, List.getElem?_eq_getElem (by have := hrd.1; simp only at this; omega)⟩
          obtain ⟨b2, off2, e2, hb2, hc2⟩ := hrd.2 (by simp only; omega)
          simp only at e2 hc2
          subst e2
          obtain ⟨s0, s1, s2, s3, s4, s5, s6⟩ := hc2 j s hs
          have HS := Lib.hid hs
          have HJl := Lib.hid hjl
          clear hI hrd hs hc2 hb2 hjl hj
          have hbu : Below wr.heap.size wr (wr.alloc (.cells #[.int .i64 s.id, .int .i64 s.tok, .int .i64 s.ver, .int .i64 s.zone, .bool s.on, .bool s.well, .bool s.inn] 35)) := (Below.refl _ _).alloc (Nat.le_refl _) _
          have HA := Lib.hid (HI.out.up HJ.out HG.out hbu)
          have htk : ps.take (j + 1) = ps.take j ++ [s] := by
            have hj1 := (List.getElem?_eq_some_iff.1 HS.out).1
            have := HS.out
            rw [List.getElem?_eq_getElem hj1] at this
            rw [List.take_succ_eq_append_getElem hj1, Option.some.inj this]
          have HTk := Lib.hid htk
          have hpre : (joinP (l.take i) ++ ps.take j) ++ [s] <+: joinP l := by
            rw [List.append_assoc, ← htk]; exact joinP_prefix HX.out (j + 1)
          obtain ⟨fn, tmps, assign, body, hy, hR⟩ := HY.out _ _ _ HA.out.inv hpre
          have HR := Lib.hid hR
          unfold Sn.vs at hy
          clear hR hpre htk hbu
          gi_wp2_with fail
          refine ⟨fun h => (by cases h), HR.out.mono ?_⟩
          rintro e W3 (⟨rfl, hJ3, hk3⟩ | ⟨rfl, hJx3⟩)
          · have HA3 : Hid (WiAt Bp G (some ⟨b, off, none⟩) n c l J W0 i (ps.take (j + 1)) W3) := Lib.hid ⟨HA.out.le, (hk3.2 _ HGp.out).trans HA.out.bn, HA.out.rd.kept hk3, Nat.le_trans HA.out.sz hk3.1, by rw [HTk.out, ← List.append_assoc]; exact hJ3⟩
            clear hJ3 hk3 HR
            gi_wp2_with fail
            go_roundw
            case rel => exact ⟨j + 1, by simp, HJl.out, HA3.out⟩
            case measure => have := HJl.out; simp [intOf]; omega
          · have HJx := Lib.hid hJx3
            clear hJx3 HR
            gi_wp2_with fail
            simp only [Exit.jump]
            refine bodyPost_ret (results_none rfl _ _ _) rfl ?_
            exact ⟨⟨_, rfl⟩, .inr HJx.out⟩

set_option maxRecDepth 100000 in
/-- The iterator hands over what stands on the pages, in order. -/
theorem within_mem (m Bp : Nat) (G : Nat → Prop) (A : Option Addr) (n c : Nat) (l : List PE) (hn : n ≤ 1000) (hsm : ∀ x ∈ l, x.n ≤ 1000) (w : World) (hG : ∀ b, G b → b < w.heap.size) (hGp : G Bp) (hBn : Whole w Bp 27 #[.slice A n c]) (hr : RdP w G A n l) :
    SeqMem m Try.prog 27 #[.pointer (some ⟨Bp, 0, none⟩)] snEnc (SnOk (joinP l)) (KpG G) (fun ys => ys = joinP l) w := fun lp J Jx W hW hA hY h0 =>
  within1_in m lp Bp G A n c l hn hsm J Jx W hA (fun b hb => Nat.lt_of_lt_of_le (hG b hb) hW.size) hGp (fun pre x V hV hk => hY pre x V hV hk) (hBn.under hW) (hr.kept (kpG_under hG hW)) h0

end Go.Proofs.Ytdoaakohgmohkaa
