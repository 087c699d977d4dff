/-
  The walks of 'shown' of package page and of the iterator that it hands back: what is shown of a cloud, in order. Conditions: those that each theorem names.
-/
import Derived.Test.YtdoaakohgmohkaaPgSeen
import Derived.Test.YtdoaakohgmohkaaCdRight
import Derived.LoopIn
namespace Go.Proofs.Ytdoaakohgmohkaa
open Go.RowKit Go.Shelf
attribute [local go_sem] Oper.semAt_some

def ShownPost (A : Option Addr) (n c : Nat) (fl dr nw : Int) (tg : Bool) (w : World) (e : Ending) (w' : World) : Prop :=
  ∃ g, e = .returned (.func (.func 25) #[] #[.pointer (some ⟨g, 0, none⟩)]) ∧ w.heap.size ≤ g ∧ Whole w' g 24 #[.slice A n c, .int .i64 fl, .int .i64 dr, .int .i64 nw, .bool tg] ∧ Below w.heap.size w w'

set_option maxRecDepth 100000 in
set_option maxHeartbeats 1000000 in
theorem shown_yes (A : Option Addr) (n c : Nat) (x : Cw) (w : World) (hr : RdX w w.heap.size A n x.l) (h : right x = true) :
    Calls Try.prog 20 #[.agg #[.slice A n c, .int .i64 x.fl, .int .i64 x.dr, .int .i64 x.nw, .bool x.tg]] w (ShownPost A n c x.fl x.dr x.nw x.tg w) := by
  have HR := Lib.hid hr
  have hW : Whole (w.alloc (.cells #[.slice A n c, .int .i64 x.fl, .int .i64 x.dr, .int .i64 x.nw, .bool x.tg] 24)) w.heap.size 24 #[.slice A n c, .int .i64 x.fl, .int .i64 x.dr, .int .i64 x.nw, .bool x.tg] := Whole.new w _ _
  have hB : Below w.heap.size w (w.alloc (.cells #[.slice A n c, .int .i64 x.fl, .int .i64 x.dr, .int .i64 x.nw, .bool x.tg] 24)) := (Below.refl _ w).alloc (Nat.le_refl _) _
  have HW := Lib.hid hW
  have HB := Lib.hid hB
  have HC := Lib.hid (right_any A n c x w.heap.size (w.alloc (.cells #[.slice A n c, .int .i64 x.fl, .int .i64 x.dr, .int .i64 x.nw, .bool x.tg] 24)) (hr.below hB) (by simp))
  rw [h] at HC
  clear hr hW hB h
  go_enter Try.func20, Try.ntmps20
  go_wp2_with fail
  refine HC.out.mono ?_
  rintro e w2 ⟨rfl, q2⟩
  have h2 := HW.out.under q2
  go_wp2_with fail
  go_ret
  exact ⟨_, rfl, Nat.le_refl _, h2, HB.out.trans (q2.mono (by simp))⟩

/-- Where the iterator stands. -/
structure SnAtI (Bn n₀ : Nat) (C : Array Value) (A : Option Addr) (n : Nat) (xs : List Bx) (J : List Sn → World → Prop) (j : Nat) (W : World) : Prop where
  le : j ≤ n
  bn : Whole W Bn 24 C
  rd : RdX W n₀ A n xs
  sz : n₀ ≤ W.heap.size
  inv : J (shown (xs.take j)) W

set_option maxRecDepth 100000 in
theorem SnAtI.up {Bn n₀ : Nat} {C : Array Value} {A : Option Addr} {n : Nat} {xs : List Bx} {J : List Sn → World → Prop} {j : Nat} {W W' : World} {B : Nat} (h : SnAtI Bn n₀ C A n xs J j W) (hJ : AbidesFrom B J) (hb : Below W.heap.size W W') : SnAtI Bn n₀ C A n xs J j W' :=
  ⟨h.le, h.bn.under hb, h.rd.below (hb.mono h.sz), Nat.le_trans h.sz hb.size, hJ _ W W' none h.inv ⟨hb.os, hb.tape, hb.output, hb.size, fun i hi _ => hb.block i hi⟩ (fun r e => by cases e)⟩
set_option maxRecDepth 100000 in
theorem SnAtI.next {Bn n₀ : Nat} {C : Array Value} {A : Option Addr} {n : Nat} {xs : List Bx} {J : List Sn → World → Prop} {j : Nat} {W : World} (h : SnAtI Bn n₀ C A n xs J j W) (hlt : j < n) (hJ : J (shown (xs.take (j + 1))) W) : SnAtI Bn n₀ C A n xs J (j + 1) W := ⟨hlt, h.bn, h.rd, h.sz, hJ⟩
set_option maxRecDepth 100000 in
theorem shown_prefix (l : List Bx) (j : Nat) : shown (l.take j) <+: shown l := by
  refine ⟨shown (l.drop j), ?_⟩
  unfold shown
  rw [← List.map_append, ← List.filter_append, List.take_append_drop]

set_option maxRecDepth 100000 in
set_option maxHeartbeats 2000000 in
theorem shown1_in (m l Bn n₀ : Nat) (A : Option Addr) (n c : Nat) (fl dr nw : Int) (tg : Bool) (xs : List Bx) (hn : n ≤ 1000) (J : List Sn → World → Prop) (Jx : World → Prop) (W0 : World) (hJ : AbidesFrom W0.heap.size J) (h₀ : n₀ ≤ W0.heap.size)
    (hY : ∀ pre x W, J pre W → (pre ++ [x] <+: shown xs) → YieldAt Fence.wide (m - 1) Try.prog l #[.agg x.vs.toArray] W fun e W' =>
      (e = .returned (.bool true) ∧ J (pre ++ [x]) W' ∧ KpB n₀ Bn W W') ∨ (e = .returned (.bool false) ∧ Jx W'))
    (hBn : Whole W0 Bn 24 #[.slice A n c, .int .i64 fl, .int .i64 dr, .int .i64 nw, .bool tg]) (hr : RdX W0 n₀ A n xs) (h0 : J [] W0) :
    CallsIn Fence.wide m Try.prog 25 #[.func (.yield l) #[] #[], .pointer (some ⟨Bn, 0, none⟩)] W0 fun e W' => (∃ v, e = .returned v) ∧
      ((∃ ys : List Sn, ys = shown xs ∧ J ys W') ∨ Jx W') := by
  have HY := Lib.hid hY
  have HJ := Lib.hid hJ
  have HI : Hid (SnAtI Bn n₀ #[.slice A n c, .int .i64 fl, .int .i64 dr, .int .i64 nw, .bool tg] A n xs J 0 W0) := Lib.hid ⟨Nat.zero_le _, hBn, hr, h₀, h0⟩
  have c0 := hBn.cell 0
  simp only [List.getElem?_toArray, List.getElem?_cons_zero] at c0
  clear hY hJ hr h0 hBn
  refine callsIn_of_wp Try.func25 rfl trivial ?_ rfl
  simp only [Try.ntmps25, List.size_toArray, List.length_cons, List.length_nil, Nat.reduceAdd, Nat.reduceSub, Array.replicate_succ, Array.replicate_zero, List.push_toArray, List.append_toArray, List.nil_append, List.cons_append]
  gi_wp2_with fail
  gi_loopw [8] (fun i wr => ∃ j : Nat, i = .int .i64 (j : Int) ∧ SnAtI Bn n₀ #[.slice A n c, .int .i64 fl, .int .i64 dr, .int .i64 nw, .bool tg] A n xs J j wr) (fun i _ => n - (intOf i).toNat)
  case atStart => exact ⟨0, rfl, HI.out⟩
  case round =>
    obtain ⟨j, rfl, hI⟩ := hrel
    have HI2 := Lib.hid hI
    clear HI c0
    by_cases hltn : j < n
    rotate_left
    · have hge : decide (j < n) = false := by simp; omega
      have HE : Hid (j = n) := Lib.hid (by have := hI.le; omega)
      clear hI hltn
      gi_wp2_with fail
      go_end0
      exact ⟨⟨_, rfl⟩, .inl ⟨_, rfl, by have := HI2.out.inv; rw [HE.out, List.take_of_length_le (by rw [HI2.out.rd.1]; exact Nat.le_refl _)] at this; exact this⟩⟩
    · have hlt : (j : Int) < (n : Int) := by omega
      obtain ⟨x, hx⟩ : ∃ x, xs[j]? = some x := ⟨_, List.getElem?_eq_getElem (by rw [hI.rd.1]; exact hltn)⟩
      obtain ⟨b, off, rfl, hb, hc⟩ := hI.rd.2 (by omega)
      obtain ⟨c0, c1, c2, c3, c4, c5, c6, c7, c8, c9, c10⟩ := hc j x hx
      have HX := Lib.hid hx
      have HT := Lib.hid (shown_take hx)
      have HLt := Lib.hid hltn
      clear hI hc hx hltn
      obtain ⟨id, tok, ver, zone, tag, on, gone, well, lb, unt, fen⟩ := x
      simp only at c0 c1 c2 c3 c4 c5 c6 c7 c8 c9 c10
      have HA : Hid (SnAtI Bn n₀ #[.slice (some ⟨b, off, none⟩) n c, .int .i64 fl, .int .i64 dr, .int .i64 nw, .bool tg] (some ⟨b, off, none⟩) n xs J j (wr.alloc (.cells #[.int .i64 id, .int .i64 tok, .int .i64 ver, .int .i64 zone, .bool tag, .bool on, .bool gone, .bool well, .int .u8 lb, .int .i64 unt, .int .i64 fen] 33))) := Lib.hid (HI2.out.up HJ.out ((Below.refl _ _).alloc (Nat.le_refl _) _))
      cases tag with
      | false =>
        gi_wp2_with fail
        refine ⟨trivial, ?_⟩
        gi_wp2_with fail
        refine ⟨fun _ h => (by cases h), ?_⟩
        gi_wp2_with fail
        go_roundw
        case rel => exact ⟨j + 1, by simp, HA.out.next HLt.out (by have := HT.out; simp [showB] at this; rw [this]; exact HA.out.inv)⟩
        case measure => have := HLt.out; simp [intOf]; omega
      | true =>
        cases gone with
        | true =>
          gi_wp2_with fail
          refine ⟨trivial, ?_⟩
          gi_wp2_with fail
          refine ⟨fun _ h => (by cases h), ?_⟩
          gi_wp2_with fail
          go_roundw
          case rel => exact ⟨j + 1, by simp, HA.out.next HLt.out (by have := HT.out; simp [showB] at this; rw [this]; exact HA.out.inv)⟩
          case measure => have := HLt.out; simp [intOf]; omega
        | false =>
          gi_wp2_with fail
          refine ⟨trivial, fun h => (by cases h), (callsIn_wide.2 (seen_any ⟨id, tok, ver, zone, true, on, false, well, lb, unt, fen⟩ _)).mono ?_⟩
          rintro e w2 ⟨rfl, q2⟩
          have HA2 := Lib.hid (HA.out.up HJ.out q2)
          have HT2 : Hid (shown (xs.take (j + 1)) = shown (xs.take j) ++ [seenB ⟨id, tok, ver, zone, true, on, false, well, lb, unt, fen⟩]) := Lib.hid (by have := HT.out; simpa [showB] using this)
          have hpre : shown (xs.take j) ++ [seenB ⟨id, tok, ver, zone, true, on, false, well, lb, unt, fen⟩] <+: shown xs := by
            rw [← HT2.out]; exact shown_prefix xs (j + 1)
          obtain ⟨fn, tmps, assign, body, hy, hR⟩ := HY.out _ _ w2 HA2.out.inv hpre
          have HR := Lib.hid hR
          have hbox : BoxIn w2 wr.heap.size ⟨id, tok, ver, zone, true, on, false, well, lb, unt, fen⟩ := Whole.under (Whole.new wr _ _) q2
          clear hR hpre HT HA q2 c0 c1 c2 c3 c4 c5 c6 c7 c8 c9 c10
          gi_wp2_with fail
          refine ⟨fun h => (by cases h), HR.out.mono ?_⟩
          rintro e W3 (⟨rfl, hJ3, hk3⟩ | ⟨rfl, hJx3⟩)
          · have HA3 : Hid (SnAtI Bn n₀ #[.slice (some ⟨b, off, none⟩) n c, .int .i64 fl, .int .i64 dr, .int .i64 nw, .bool tg] (some ⟨b, off, none⟩) n xs J (j + 1) W3) := Lib.hid ⟨HLt.out, hk3.2.trans HA2.out.bn, HA2.out.rd.below hk3.1, Nat.le_trans HA2.out.sz hk3.1.size, by rw [HT2.out]; exact hJ3⟩
            clear hJ3 hk3 HR
            gi_wp2_with fail
            go_roundw
            case rel => exact ⟨j + 1, by simp, HA3.out⟩
            case measure => have := HLt.out; simp [intOf]; omega
          · have HJx := Lib.hid hJx3
            clear hJx3 HR
            gi_wp2_with fail
            refine bodyPost_ret (results_none rfl _ _ _) rfl ?_
            exact ⟨⟨_, rfl⟩, .inr HJx.out⟩

set_option maxRecDepth 100000 in
/-- The iterator hands over what is shown, in order. -/
theorem shown_mem (m Bn n₀ : Nat) (A : Option Addr) (n c : Nat) (fl dr nw : Int) (tg : Bool) (xs : List Bx) (hn : n ≤ 1000) (w : World) (hn₀ : n₀ ≤ w.heap.size) (hBn : Whole w Bn 24 #[.slice A n c, .int .i64 fl, .int .i64 dr, .int .i64 nw, .bool tg]) (hr : RdX w n₀ A n xs) :
    SeqMem m Try.prog 25 #[.pointer (some ⟨Bn, 0, none⟩)] snEnc (SnOk (shown xs)) (KpB n₀ Bn) (fun ys => ys = shown xs) w := fun l J Jx W hW hA hY h0 =>
  shown1_in m l Bn n₀ A n c fl dr nw tg xs hn J Jx W hA (Nat.le_trans hn₀ hW.size) (fun pre x V hV hk => hY pre x V hV hk) (hBn.under hW) (hr.below (hW.mono hn₀)) h0

end Go.Proofs.Ytdoaakohgmohkaa
