/-
  The walk of 'wakes' of the statements over ways. Conditions: none.
-/
import Derived.Test.YtcbbjloojngoiaaNtAsk
import Derived.Test.YtcbbjloojngoiaaNtTell
import Derived.Test.YtcbbjloojngoiaaNtTwice
import Derived.Test.YtcbbjloojngoiaaNtSame
import Derived.Deep.DeepCutAuto
namespace Go.Proofs.Ytcbbjloojngoiaa
open Go.RowKit Go.Shelf

theorem calls_at {P : Program} {f : FuncId} {args : Array Value} {W : World} {R : Ending → World → Prop} (h : ∀ V, W = V → Calls P f args V R) : Calls P f args W R := h W rfl
theorem wp_at {P : Program} {c : Code} {Q : Exit → Act → World → Prop} {a : Act} {W : World} (h : ∀ V, W = V → c.wp P Q a V) : c.wp P Q a W := h W rfl
theorem ntR_nil (w : World) : NtR w none 0 none 0 ⟨[], []⟩ :=
  ⟨⟨rfl, fun h => absurd h (by omega)⟩, ⟨[], rfl, RdT.nil_ _ _ _⟩, ⟨Nat.zero_le _, Nat.zero_le _, by simp⟩⟩
def q3 : Ak := ⟨0, 3, 0, 0, 0, 0⟩
def t9 : TE := ⟨9, 0, 0, 0, none, 0, 0, false, []⟩

set_option maxRecDepth 100000 in
set_option maxHeartbeats 4000000 in
theorem wakesN_any (w : World) : Calls Try.prog 9 #[] w (WakePost w) := by
  go_enter Try.func9, Try.ntmps9
  go_wp2_with fail
  refine (ask_any none 0 0 none 0 0 ⟨[], []⟩ 5 w (ntR_nil w)).mono ?_
  rintro e w1 ⟨A1, c1, A2, c2, q, rfl, hq, o1, b1⟩
  have hq0 : q = ⟨0, 0, 0, 0, 0, 0⟩ := hq
  subst hq0
  have B1 := Lib.hid b1
  clear hq o1 b1
  simp only [askN, List.eraseIdx_nil, List.length_nil, Nat.lt_irrefl, decide_false]
  go_wp2_with fail
  refine calls_at (fun V1 hV1 => ?_)
  have hb1 : Below w.heap.size w V1 := by rw [← hV1]; exact (B1.out.alloc B1.out.size _).alloc (by have := B1.out.size; simp; omega) _
  have HB1 := Lib.hid hb1
  clear hb1 hV1 B1
  refine Calls.mono (show Calls _ _ _ V1 (SendPost ⟨[q3], []⟩ 0 V1) from send_any none 0 0 none 0 0 ⟨[], []⟩ q3 V1 (ntR_nil V1)) ?_
  rintro e w2 ⟨A4, c4, B4, d4, rfl, o4, b4⟩
  simp only [List.length_cons, List.length_nil, Nat.zero_add] at o4 ⊢
  have HB2 := Lib.hid (HB1.out.trans (b4.mono HB1.out.size))
  have R4 := Lib.hid (o4.rd ⟨by simp, by simp, by simp⟩)
  clear o4 b4 HB1
  go_wp2_with fail
  refine calls_at (fun V2 hV2 => ?_)
  have hbu : Below w2.heap.size w2 V2 := by rw [← hV2]; exact (Below.refl _ _).alloc (Nat.le_refl _) _
  have n4 : Whole V2 w2.heap.size 25 #[.slice A4 1 c4, .slice B4 0 d4] := by rw [← hV2]; exact Whole.new _ _ _
  have HB3 := Lib.hid (HB2.out.trans (hbu.mono HB2.out.size))
  have R5 := Lib.hid (R4.out.up hbu)
  have N4 := Lib.hid n4
  obtain ⟨g, hg⟩ : ∃ g, w2.heap.size = g := ⟨_, rfl⟩
  have HG : Hid (w.heap.size ≤ g) := Lib.hid (by rw [← hg]; exact HB2.out.size)
  rw [hg] at N4
  rw [hg]
  clear hbu n4 hV2 R4 HB2 hg
  refine Calls.mono (show Calls _ _ _ V2 (SendPost ⟨[q3, q3], []⟩ 0 V2) from twice_any A4 1 c4 B4 0 d4 ⟨[q3], []⟩ 0 false V2 R5.out) ?_
  rintro e w3 ⟨A6, c6, B6, d6, rfl, o6, b6⟩
  simp only [List.length_cons, List.length_nil, Nat.zero_add] at o6 ⊢
  have n6 := N4.out.under b6
  obtain ⟨x0, x1⟩ := cells2 n6
  have f0 := n6.frozen 0
  have f1 := n6.frozen 1
  have HB4 := Lib.hid (HB3.out.trans (b6.mono HB3.out.size))
  have O6 := Lib.hid o6
  have N6 := Lib.hid n6
  have SZ : Hid (V2.heap.size ≤ w3.heap.size) := Lib.hid b6.size
  clear o6 b6 n6 HB3 R5
  go_wp2_with fail
  refine calls_at (fun V3 hV3 => ?_)
  obtain ⟨e3, k3⟩ := put2 N6.out (.slice A6 2 c6) (.slice B6 0 d6)
  rw [hV3] at e3 k3
  have o7 := O6.out.only k3 N6.out (by decide) (by decide) (by decide)
  have r7 := o7.rd (s := ⟨[q3, q3], []⟩) ⟨by simp, by simp, by simp⟩
  have HB5 := Lib.hid (k3.bel HB4.out HG.out)
  have R7 := Lib.hid r7
  have N7 := Lib.hid e3
  clear x0 x1 f0 f1 e3 k3 hV3 o7 r7 HB4 O6 N6 N4 SZ
  refine Calls.mono (ask_any A6 2 c6 B6 0 d6 ⟨[q3, q3], []⟩ (-1) V3 R7.out) ?_
  rintro e w4 ⟨A8, c8, B8, d8, q, rfl, hq, o8, b8⟩
  have hq8 : q = q3 := hq
  subst hq8
  rw [show askN ⟨[q3, q3], []⟩ (-1) = ⟨[q3], []⟩ from rfl] at o8 ⊢
  have r8 := o8.rd (s := ⟨[q3], []⟩) ⟨by simp, by simp, by simp⟩
  simp only [List.length_cons, List.length_nil, Nat.zero_add, Nat.reduceAdd, Nat.zero_lt_succ, decide_true, q3]
  have HB6 := Lib.hid (HB5.out.trans (b8.mono HB5.out.size))
  have N8 := Lib.hid (N7.out.under b8)
  have R8 := Lib.hid r8
  have R7b := Lib.hid (R7.out.up b8)
  clear hq o8 b8 r8 HB5 R7 N7
  go_upto_region 5 with fail
  refine wp_at (fun V4 hV4 => ?_)
  obtain ⟨hbu, n9, n10⟩ := two_new w4 25 27 #[.slice A8 1 c8, .slice B8 0 d8] #[.int .u8 0, .int .i64 3, .int .i64 0, .int .i64 0, .int .i64 0, .int .i64 0]
  rw [hV4] at hbu n9 n10
  have n4 := N8.out.under hbu
  obtain ⟨x0, x1⟩ := cells2 n4
  have HB7 := Lib.hid (HB6.out.trans (hbu.mono HB6.out.size))
  have N4 := Lib.hid n4
  have R9 := Lib.hid (R8.out.up hbu)
  have R7c := Lib.hid (R7b.out.up hbu)
  have N9 := Lib.hid n9
  have N10 := Lib.hid n10
  clear hbu n4 n9 n10 hV4 N8 R8 R7b HB6
  go_wp2_with fail
  refine Calls.mono (tell_any A6 2 c6 B6 0 d6 ⟨[q3, q3], []⟩ 0 V4 R7c.out) ?_
  rintro e w5 ⟨A10, c10, B10, d10, x, rfl, hx, ox, o10, b10⟩
  have hxc : x.call = 0 := congrArg Tl.call hx
  rw [show tellN ⟨[q3, q3], []⟩ 0 = ⟨[q3, q3], []⟩ from rfl]
  simp only [List.length_cons, List.length_nil, Nat.zero_add, Nat.reduceAdd, Nat.lt_irrefl, decide_false]
  have HB8 := Lib.hid (HB7.out.trans (b10.mono HB7.out.size))
  have N5 := Lib.hid (N4.out.under b10)
  have N11 := Lib.hid (N9.out.under b10)
  have N12 := Lib.hid (N10.out.under b10)
  have R10 := Lib.hid (R9.out.up b10)
  have HXC := Lib.hid hxc
  clear x0 x1 hx ox o10 b10 HB7 N4 N9 N10 R9 R7c hxc
  go_upto_region 6 with fail
  refine wp_at (fun V5 hV5 => ?_)
  obtain ⟨hbu, n13, n14⟩ := two_new w5 25 30 #[.slice A10 2 c10, .slice B10 0 d10] #[.int .i64 x.call, .int .u8 x.kind, .int .u8 x.code, .int .i64 x.id, .slice x.A x.n x.c, .bool x.more]
  rw [hV5] at hbu n13 n14
  have n15 := N11.out.under hbu
  obtain ⟨x0, x1⟩ := cells2 n15
  have HB9 := Lib.hid (HB8.out.trans (hbu.mono HB8.out.size))
  have N6 := Lib.hid (N5.out.under hbu)
  have R11 := Lib.hid (R10.out.up hbu)
  have N15 := Lib.hid n15
  have N16 := Lib.hid (N12.out.under hbu)
  have N14 := Lib.hid n14
  clear hbu n13 n14 n15 hV5 N5 N11 N12 R10 HB8
  go_wp2_with fail
  refine Calls.mono (show Calls _ _ _ V5 (SendPost ⟨[q3], [t9.t]⟩ 0 V5) from post_any A8 1 c8 B8 0 d8 ⟨[q3], []⟩ t9 V5 R11.out ⟨RdSn.nil_ _ _ _, Nat.zero_le _⟩) ?_
  rintro e w6 ⟨A12, c12, B12, d12, rfl, o12, b12⟩
  have r12 := o12.rd (s := ⟨[q3], [t9.t]⟩) ⟨by simp, by simp, by simp [t9, TE.t]⟩
  simp only [List.length_cons, List.length_nil, Nat.zero_add]
  have HB10 := Lib.hid (HB9.out.trans (b12.mono HB9.out.size))
  have N7 := Lib.hid (N6.out.under b12)
  have N17 := Lib.hid (N15.out.under b12)
  have N18 := Lib.hid (N16.out.under b12)
  have N19 := Lib.hid (N14.out.under b12)
  have R12 := Lib.hid r12
  have R13 := Lib.hid (R11.out.up b12)
  clear x0 x1 o12 b12 r12 HB9 N6 N15 N16 N14 R11
  go_upto_region 7 with fail
  refine wp_at (fun V6 hV6 => ?_)
  have hbu : Below w6.heap.size w6 V6 := by rw [← hV6]; exact (Below.refl _ _).alloc (Nat.le_refl _) _
  have n20 : Whole V6 w6.heap.size 25 #[.slice A12 1 c12, .slice B12 1 d12] := by rw [← hV6]; exact Whole.new _ _ _
  have HB11 := Lib.hid (HB10.out.trans (hbu.mono HB10.out.size))
  have R14 := Lib.hid (R12.out.up hbu)
  have R15 := Lib.hid (R13.out.up hbu)
  have N21 := Lib.hid (N17.out.under hbu)
  have N20 := Lib.hid n20
  have HC1 := Lib.hid (sameN_any A12 1 c12 B12 1 d12 ⟨[q3], [t9.t]⟩ A12 1 c12 B12 1 d12 ⟨[q3], [t9.t]⟩ V6 R14.out R14.out)
  rw [decide_eq_true rfl] at HC1
  have HC2 := Lib.hid (fun W (hW : Below V6.heap.size V6 W) => (show Calls _ _ _ W (BoolPost false W) from sameN_any A8 1 c8 B8 0 d8 ⟨[q3], []⟩ A12 1 c12 B12 1 d12 ⟨[q3], [t9.t]⟩ W (R15.out.up hW) (R14.out.up hW)))
  have HN := Lib.hid (fun W (hW : Below V6.heap.size V6 W) => And.intro (cells2 (N20.out.under hW)) (cells2 (N21.out.under hW)))
  obtain ⟨g4, _⟩ := cells2 (N7.out.under hbu)
  obtain ⟨g7, h7⟩ := cells2 N21.out
  obtain ⟨_, g8, _⟩ := cellsW6 (N18.out.under hbu)
  obtain ⟨g11, _⟩ := cellsW6 (N19.out.under hbu)
  obtain ⟨g13, h13⟩ := cells2 n20
  have e0 := HXC.out
  rw [e0] at g11
  clear hbu n20 hV6 e0 R12 R13 N17 N18 N19 N7 HB10
  go_wp2_with (first | (go_at_call 16; refine HC1.out.mono ?_; rintro e y1 ⟨rfl, q1⟩; have HQ := Lib.hid q1; obtain ⟨⟨k13, l13⟩, k7, l7⟩ := HN.out y1 q1; clear q1 HC1) | (go_at_call 16; refine (HC2.out y1 HQ.out).mono ?_; rintro e y2 ⟨rfl, q2⟩; have HQ2 := Lib.hid (HQ.out.trans (q2.mono HQ.out.size)); clear q2))
  go_ret
  exact ⟨rfl, HB11.out.trans (HQ2.out.mono HB11.out.size)⟩

end Go.Proofs.Ytcbbjloojngoiaa
