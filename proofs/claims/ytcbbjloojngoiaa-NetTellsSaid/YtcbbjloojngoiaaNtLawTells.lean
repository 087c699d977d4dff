/-
  The walk of the statement NetTells: each function answers what a plain one tells. Conditions: those that each theorem names.
-/
import Derived.Test.YtcbbjloojngoiaaNtLawTells1
import Derived.Test.YtcbbjloojngoiaaRegT
import Derived.Test.YtcbbjloojngoiaaNtRefSend
import Derived.Test.YtcbbjloojngoiaaNtRefAsk
import Derived.Test.YtcbbjloojngoiaaNtRefTell
import Derived.Test.YtcbbjloojngoiaaNtRefTwice
import Derived.Deep.DeepCutAuto
namespace Go.Proofs.Ytcbbjloojngoiaa
open Go.RowKit Go.Shelf

set_option maxRecDepth 100000 in
set_option maxHeartbeats 16000000 in
theorem tells_on (A : Option Addr) (n c : Nat) (A' : Option Addr) (n' c' : Nat) (s : Nt) (B : Option Addr) (m d : Nat) (B' : Option Addr) (m' d' : Nat) (s2 : Nt) (q : Ak) (x : TE) (z : Int) (tells : Bool) (w : World) (hr : NtIn w A n A' n' s) (hr2 : NtIn w B m B' m' s2) (hx : RdSn w w.heap.size x.A x.n x.l) (hg : greatN s = false) (hg2 : greatN s2 = false) (h3 : x.n ≤ 60) :
    Calls Try.prog 3 #[.agg #[.slice A n c, .slice A' n' c'], .agg #[.slice B m d, .slice B' m' d'], .agg #[.int .u8 q.kind, .int .i64 q.call, .int .i64 q.a, .int .i64 q.b, .int .i64 q.c, .int .i64 q.d], .agg #[.int .i64 x.call, .int .u8 x.kind, .int .u8 x.code, .int .i64 x.id, .slice x.A x.n x.c, .bool x.more], .int .i64 z, .bool tells] w (TruePost w) := by
  have HG := Lib.hid hg
  have HG2 := Lib.hid hg2
  have d3 : decide ((60 : Int) < (x.n : Int)) = false := by simp; omega
  have hrd := hr.rd hg
  have hrd2 := hr2.rd hg2
  have hxl := hx.len
  have R0 := Lib.hid hrd
  have R1 := Lib.hid hrd2
  have T0 := Lib.hid (show TeR w x from ⟨hx, by omega⟩)
  have FS := Lib.hid hrd.few
  obtain ⟨so, hso⟩ : ∃ so, sendN s q = so := ⟨_, rfl⟩
  obtain ⟨er, her⟩ : ∃ er, fullE s.ks.length = er := ⟨_, rfl⟩
  obtain ⟨sp, hsp⟩ : ∃ sp, postN s x.t = sp := ⟨_, rfl⟩
  obtain ⟨er2, her2⟩ : ∃ er, fullE s.ts.length = er := ⟨_, rfl⟩
  have F1 := Lib.hid (show so.few by rw [← hso]; exact few_sendN hg q)
  have F2 := Lib.hid (show sp.few by rw [← hsp]; exact few_postN hg (by simp only [TE.t]; omega))
  have E1 := Lib.hid hso
  have E2 := Lib.hid her
  have E3 := Lib.hid hsp
  have E4 := Lib.hid her2
  obtain ⟨sa, hsa⟩ : ∃ sa, askN s z = sa := ⟨_, rfl⟩
  obtain ⟨st, hst⟩ : ∃ st, tellN s z = st := ⟨_, rfl⟩
  obtain ⟨sw, hsw⟩ : ∃ sw, twiceN s z tells = sw := ⟨_, rfl⟩
  obtain ⟨er3, her3⟩ : ∃ er, twiceE s tells = er := ⟨_, rfl⟩
  obtain ⟨o1, ho1⟩ : ∃ o1, decide (0 < s.ks.length) = o1 := ⟨_, rfl⟩
  obtain ⟨o2, ho2⟩ : ∃ o2, decide (0 < s.ts.length) = o2 := ⟨_, rfl⟩
  have F3 := Lib.hid (show sa.few by rw [← hsa]; exact few_askN hg z)
  have F4 := Lib.hid (show st.few by rw [← hst]; exact few_tellN hg z)
  have F5 := Lib.hid (show sw.few by rw [← hsw]; exact few_twiceN hg z tells)
  have E5 := Lib.hid hsa
  have E6 := Lib.hid hst
  have E7 := Lib.hid hsw
  have E8 := Lib.hid her3
  have E9 := Lib.hid ho1
  have E10 := Lib.hid ho2
  have HLEN := Lib.hid (show ∀ y : TE, y.t = (tellT s z).getD ⟨0, 0, 0, 0, [], false⟩ → y.l.length ≤ 100 by
    intro y hy
    have h1 := congrArg (fun t => t.seen.length) hy
    simp only [TE.t] at h1
    rw [h1]
    cases ht : tellT s z with
    | none => simp
    | some t => simp only [Option.getD_some]; have := hrd.few.sn t (List.mem_of_getElem? ht); omega)
  clear hso her hsp her2 hsa hst hsw her3 ho1 ho2 hxl hrd hrd2 h3 hx hg hg2
  obtain ⟨hb, h0, h1, h2, h3⟩ := four_new w 25 25 27 30 #[.slice A n c, .slice A' n' c'] #[.slice B m d, .slice B' m' d'] #[.int .u8 q.kind, .int .i64 q.call, .int .i64 q.a, .int .i64 q.b, .int .i64 q.c, .int .i64 q.d] #[.int .i64 x.call, .int .u8 x.kind, .int .u8 x.code, .int .i64 x.id, .slice x.A x.n x.c, .bool x.more]
  obtain ⟨V, hV⟩ : ∃ V, (((w.alloc (.cells #[.slice A n c, .slice A' n' c'] 25)).alloc (.cells #[.slice B m d, .slice B' m' d'] 25)).alloc (.cells #[.int .u8 q.kind, .int .i64 q.call, .int .i64 q.a, .int .i64 q.b, .int .i64 q.c, .int .i64 q.d] 27)).alloc (.cells #[.int .i64 x.call, .int .u8 x.kind, .int .u8 x.code, .int .i64 x.id, .slice x.A x.n x.c, .bool x.more] 30) = V := ⟨_, rfl⟩
  rw [hV] at hb h0 h1 h2 h3
  have HV := Lib.hid hV
  have N0 := Lib.hid h0
  have N1 := Lib.hid h1
  have N2 := Lib.hid h2
  have N3 := Lib.hid h3
  have I0 := Lib.hid (hr.up hb)
  have I1 := Lib.hid (hr2.up hb)
  have BB := Lib.hid hb
  clear hV hb h0 h1 h2 h3
  clear hr hr2
  go_enter Try.func3, Try.ntmps3
  go_upto_region 1 with fail
  rw [HV.out]
  clear HV
  obtain ⟨x0, x1⟩ := cells2 N0.out
  obtain ⟨y0, y1⟩ := cells2 N1.out
  obtain ⟨z0, z1, z2, z3, z4, z5⟩ := cellsW6 N3.out
  go_wp2_with fail
  refine Calls.mono (I0.out.great c c') ?_
  rintro e y ⟨rfl, b⟩
  rw [HG.out]
  have N0_ := Lib.hid (N0.out.under b)
  have N1_ := Lib.hid (N1.out.under b)
  have N2_ := Lib.hid (N2.out.under b)
  have N3_ := Lib.hid (N3.out.under b)
  have I0_ := Lib.hid (I0.out.up b)
  have I1_ := Lib.hid (I1.out.up b)
  have BB_ := Lib.hid (BB.out.trans (b.mono BB.out.size))
  clear N0 N1 N2 N3 I0 I1 BB
  have N0 := N0_
  have N1 := N1_
  have N2 := N2_
  have N3 := N3_
  have I0 := I0_
  have I1 := I1_
  have BB := BB_
  clear N0_ N1_ N2_ N3_ I0_ I1_ BB_
  clear b x0 x1 y0 y1 z0 z1 z2 z3 z4 z5
  obtain ⟨x0, x1⟩ := cells2 N0.out
  obtain ⟨y0, y1⟩ := cells2 N1.out
  obtain ⟨z0, z1, z2, z3, z4, z5⟩ := cellsW6 N3.out
  go_wp2_with fail
  refine Calls.mono (I1.out.great d d') ?_
  rintro e y ⟨rfl, b⟩
  rw [HG2.out]
  have N0_ := Lib.hid (N0.out.under b)
  have N1_ := Lib.hid (N1.out.under b)
  have N2_ := Lib.hid (N2.out.under b)
  have N3_ := Lib.hid (N3.out.under b)
  have I0_ := Lib.hid (I0.out.up b)
  have I1_ := Lib.hid (I1.out.up b)
  have BB_ := Lib.hid (BB.out.trans (b.mono BB.out.size))
  clear N0 N1 N2 N3 I0 I1 BB
  have N0 := N0_
  have N1 := N1_
  have N2 := N2_
  have N3 := N3_
  have I0 := I0_
  have I1 := I1_
  have BB := BB_
  clear N0_ N1_ N2_ N3_ I0_ I1_ BB_
  clear b x0 x1 y0 y1 z0 z1 z2 z3 z4 z5
  obtain ⟨x0, x1⟩ := cells2 N0.out
  obtain ⟨y0, y1⟩ := cells2 N1.out
  obtain ⟨z0, z1, z2, z3, z4, z5⟩ := cellsW6 N3.out
  clear I0 I1
  go_upto_region 3 with fail
  clear x0 x1 y0 y1 z0 z1 z2 z3 z4 z5 HG HG2
  obtain ⟨x0, x1⟩ := cells2 N0.out
  obtain ⟨y0, y1, y2, y3, y4, y5⟩ := cellsW6 N2.out
  go_wp2_with fail
  refine Calls.mono (send_any A n c A' n' c' s q _ (R0.out.up BB.out)) ?_
  rintro e y ⟨A1, c1, B1, d1, rfl, o_, b⟩
  rw [E1.out] at o_ ⊢
  rw [E2.out]
  have N0_ := Lib.hid (N0.out.under b)
  have N1_ := Lib.hid (N1.out.under b)
  have N2_ := Lib.hid (N2.out.under b)
  have N3_ := Lib.hid (N3.out.under b)
  have BB_ := Lib.hid (BB.out.trans (b.mono BB.out.size))
  clear N0 N1 N2 N3 BB
  have N0 := N0_
  have N1 := N1_
  have N2 := N2_
  have N3 := N3_
  have BB := BB_
  clear N0_ N1_ N2_ N3_ BB_
  have O1 := Lib.hid (o_.weaker (Nat.zero_le _))
  clear o_ b x0 x1 y0 y1 y2 y3 y4 y5
  go_upto_region 4 with fail
  refine wp_at (fun V_ hV_ => ?_)
  obtain ⟨b, n_⟩ : Below y.heap.size y V_ ∧ Whole V_ y.heap.size 25 #[.slice A1 so.ks.length c1, .slice B1 so.ts.length d1] := by rw [← hV_]; exact ⟨(Below.refl _ _).alloc (Nat.le_refl _) _, Whole.new _ _ _⟩
  have LT_ := Lib.hid (N3.out.lt)
  obtain ⟨g1, hg_⟩ : ∃ g, y.heap.size = g := ⟨_, rfl⟩
  have N0_ := Lib.hid (N0.out.under b)
  have N1_ := Lib.hid (N1.out.under b)
  have N2_ := Lib.hid (N2.out.under b)
  have N3_ := Lib.hid (N3.out.under b)
  have BB_ := Lib.hid (BB.out.trans (b.mono BB.out.size))
  have O1_ := Lib.hid (O1.out.under b)
  clear N0 N1 N2 N3 BB O1
  have N0 := N0_
  have N1 := N1_
  have N2 := N2_
  have N3 := N3_
  have BB := BB_
  have O1 := O1_
  clear N0_ N1_ N2_ N3_ BB_ O1_
  have G1 : Hid (w.heap.size + 1 + 1 + 1 < g1) := Lib.hid (by rw [← hg_]; exact LT_.out)
  rw [hg_] at n_
  rw [hg_]
  have P1 := Lib.hid (n_)
  clear hV_ b n_ hg_ LT_
  obtain ⟨x0, x1⟩ := cells2 N0.out
  obtain ⟨y0, y1, y2, y3, y4, y5⟩ := cellsW6 N2.out
  go_wp2_with fail
  refine Calls.mono (refSend_any A n c A' n' c' s q _ (R0.out.up BB.out)) ?_
  rintro e y ⟨A2, c2, B2, d2, rfl, o_, b⟩
  rw [E1.out] at o_ ⊢
  rw [E2.out]
  have N0_ := Lib.hid (N0.out.under b)
  have N1_ := Lib.hid (N1.out.under b)
  have N2_ := Lib.hid (N2.out.under b)
  have N3_ := Lib.hid (N3.out.under b)
  have BB_ := Lib.hid (BB.out.trans (b.mono BB.out.size))
  have O1_ := Lib.hid (O1.out.under b)
  have P1_ := Lib.hid (P1.out.under b)
  clear N0 N1 N2 N3 BB O1 P1
  have N0 := N0_
  have N1 := N1_
  have N2 := N2_
  have N3 := N3_
  have BB := BB_
  have O1 := O1_
  have P1 := P1_
  clear N0_ N1_ N2_ N3_ BB_ O1_ P1_
  have O2 := Lib.hid (o_.weaker (Nat.zero_le _))
  clear o_ b x0 x1 y0 y1 y2 y3 y4 y5
  go_upto_region 5 with fail
  refine wp_at (fun V_ hV_ => ?_)
  obtain ⟨b, n_⟩ : Below y.heap.size y V_ ∧ Whole V_ y.heap.size 25 #[.slice A2 so.ks.length c2, .slice B2 so.ts.length d2] := by rw [← hV_]; exact ⟨(Below.refl _ _).alloc (Nat.le_refl _) _, Whole.new _ _ _⟩
  have LT_ := Lib.hid (P1.out.lt)
  obtain ⟨g2, hg_⟩ : ∃ g, y.heap.size = g := ⟨_, rfl⟩
  have N0_ := Lib.hid (N0.out.under b)
  have N1_ := Lib.hid (N1.out.under b)
  have N2_ := Lib.hid (N2.out.under b)
  have N3_ := Lib.hid (N3.out.under b)
  have BB_ := Lib.hid (BB.out.trans (b.mono BB.out.size))
  have O1_ := Lib.hid (O1.out.under b)
  have P1_ := Lib.hid (P1.out.under b)
  have O2_ := Lib.hid (O2.out.under b)
  clear N0 N1 N2 N3 BB O1 P1 O2
  have N0 := N0_
  have N1 := N1_
  have N2 := N2_
  have N3 := N3_
  have BB := BB_
  have O1 := O1_
  have P1 := P1_
  have O2 := O2_
  clear N0_ N1_ N2_ N3_ BB_ O1_ P1_ O2_
  have G2 : Hid (g1 < g2) := Lib.hid (by rw [← hg_]; exact LT_.out)
  rw [hg_] at n_
  rw [hg_]
  have P2 := Lib.hid (n_)
  clear hV_ b n_ hg_ LT_
  obtain ⟨x0, x1⟩ := cells2 N0.out
  obtain ⟨y0, y1, y2, y3, y4, y5⟩ := cellsW6 N3.out
  go_wp2_with fail
  refine Calls.mono (post_any A n c A' n' c' s x _ (R0.out.up BB.out) (T0.out.up BB.out)) ?_
  rintro e y ⟨A3, c3, B3, d3, rfl, o_, b⟩
  rw [E3.out] at o_ ⊢
  rw [E4.out]
  have N0_ := Lib.hid (N0.out.under b)
  have N1_ := Lib.hid (N1.out.under b)
  have N2_ := Lib.hid (N2.out.under b)
  have N3_ := Lib.hid (N3.out.under b)
  have BB_ := Lib.hid (BB.out.trans (b.mono BB.out.size))
  have O1_ := Lib.hid (O1.out.under b)
  have P1_ := Lib.hid (P1.out.under b)
  have O2_ := Lib.hid (O2.out.under b)
  have P2_ := Lib.hid (P2.out.under b)
  clear N0 N1 N2 N3 BB O1 P1 O2 P2
  have N0 := N0_
  have N1 := N1_
  have N2 := N2_
  have N3 := N3_
  have BB := BB_
  have O1 := O1_
  have P1 := P1_
  have O2 := O2_
  have P2 := P2_
  clear N0_ N1_ N2_ N3_ BB_ O1_ P1_ O2_ P2_
  have O3 := Lib.hid (o_.weaker (Nat.zero_le _))
  clear o_ b x0 x1 y0 y1 y2 y3 y4 y5
  go_upto_region 6 with fail
  refine wp_at (fun V_ hV_ => ?_)
  obtain ⟨b, n_⟩ : Below y.heap.size y V_ ∧ Whole V_ y.heap.size 25 #[.slice A3 sp.ks.length c3, .slice B3 sp.ts.length d3] := by rw [← hV_]; exact ⟨(Below.refl _ _).alloc (Nat.le_refl _) _, Whole.new _ _ _⟩
  have LT_ := Lib.hid (P2.out.lt)
  obtain ⟨g3, hg_⟩ : ∃ g, y.heap.size = g := ⟨_, rfl⟩
  have N0_ := Lib.hid (N0.out.under b)
  have N1_ := Lib.hid (N1.out.under b)
  have N2_ := Lib.hid (N2.out.under b)
  have N3_ := Lib.hid (N3.out.under b)
  have BB_ := Lib.hid (BB.out.trans (b.mono BB.out.size))
  have O1_ := Lib.hid (O1.out.under b)
  have P1_ := Lib.hid (P1.out.under b)
  have O2_ := Lib.hid (O2.out.under b)
  have P2_ := Lib.hid (P2.out.under b)
  have O3_ := Lib.hid (O3.out.under b)
  clear N0 N1 N2 N3 BB O1 P1 O2 P2 O3
  have N0 := N0_
  have N1 := N1_
  have N2 := N2_
  have N3 := N3_
  have BB := BB_
  have O1 := O1_
  have P1 := P1_
  have O2 := O2_
  have P2 := P2_
  have O3 := O3_
  clear N0_ N1_ N2_ N3_ BB_ O1_ P1_ O2_ P2_ O3_
  have G3 : Hid (g2 < g3) := Lib.hid (by rw [← hg_]; exact LT_.out)
  rw [hg_] at n_
  rw [hg_]
  have P3 := Lib.hid (n_)
  clear hV_ b n_ hg_ LT_
  obtain ⟨x0, x1⟩ := cells2 N0.out
  obtain ⟨y0, y1, y2, y3, y4, y5⟩ := cellsW6 N3.out
  go_wp2_with fail
  refine Calls.mono (refPost_any A n c A' n' c' s x _ (R0.out.up BB.out) (T0.out.up BB.out)) ?_
  rintro e y ⟨A4, c4, B4, d4, rfl, o_, b⟩
  rw [E3.out] at o_ ⊢
  rw [E4.out]
  have N0_ := Lib.hid (N0.out.under b)
  have N1_ := Lib.hid (N1.out.under b)
  have N2_ := Lib.hid (N2.out.under b)
  have N3_ := Lib.hid (N3.out.under b)
  have BB_ := Lib.hid (BB.out.trans (b.mono BB.out.size))
  have O1_ := Lib.hid (O1.out.under b)
  have P1_ := Lib.hid (P1.out.under b)
  have O2_ := Lib.hid (O2.out.under b)
  have P2_ := Lib.hid (P2.out.under b)
  have O3_ := Lib.hid (O3.out.under b)
  have P3_ := Lib.hid (P3.out.under b)
  clear N0 N1 N2 N3 BB O1 P1 O2 P2 O3 P3
  have N0 := N0_
  have N1 := N1_
  have N2 := N2_
  have N3 := N3_
  have BB := BB_
  have O1 := O1_
  have P1 := P1_
  have O2 := O2_
  have P2 := P2_
  have O3 := O3_
  have P3 := P3_
  clear N0_ N1_ N2_ N3_ BB_ O1_ P1_ O2_ P2_ O3_ P3_
  have O4 := Lib.hid (o_.weaker (Nat.zero_le _))
  clear o_ b x0 x1 y0 y1 y2 y3 y4 y5
  go_upto_region 7 with fail
  refine wp_at (fun V_ hV_ => ?_)
  obtain ⟨b, n_⟩ : Below y.heap.size y V_ ∧ Whole V_ y.heap.size 25 #[.slice A4 sp.ks.length c4, .slice B4 sp.ts.length d4] := by rw [← hV_]; exact ⟨(Below.refl _ _).alloc (Nat.le_refl _) _, Whole.new _ _ _⟩
  have LT_ := Lib.hid (P3.out.lt)
  obtain ⟨g4, hg_⟩ : ∃ g, y.heap.size = g := ⟨_, rfl⟩
  have N0_ := Lib.hid (N0.out.under b)
  have N1_ := Lib.hid (N1.out.under b)
  have N2_ := Lib.hid (N2.out.under b)
  have N3_ := Lib.hid (N3.out.under b)
  have BB_ := Lib.hid (BB.out.trans (b.mono BB.out.size))
  have O1_ := Lib.hid (O1.out.under b)
  have P1_ := Lib.hid (P1.out.under b)
  have O2_ := Lib.hid (O2.out.under b)
  have P2_ := Lib.hid (P2.out.under b)
  have O3_ := Lib.hid (O3.out.under b)
  have P3_ := Lib.hid (P3.out.under b)
  have O4_ := Lib.hid (O4.out.under b)
  clear N0 N1 N2 N3 BB O1 P1 O2 P2 O3 P3 O4
  have N0 := N0_
  have N1 := N1_
  have N2 := N2_
  have N3 := N3_
  have BB := BB_
  have O1 := O1_
  have P1 := P1_
  have O2 := O2_
  have P2 := P2_
  have O3 := O3_
  have P3 := P3_
  have O4 := O4_
  clear N0_ N1_ N2_ N3_ BB_ O1_ P1_ O2_ P2_ O3_ P3_ O4_
  have G4 : Hid (g3 < g4) := Lib.hid (by rw [← hg_]; exact LT_.out)
  rw [hg_] at n_
  rw [hg_]
  have P4 := Lib.hid (n_)
  clear hV_ b n_ hg_ LT_
  have HT0 : Hid ((fun (V' : World) => ((V'.cell? ⟨w.heap.size, 0, none⟩ = some (.slice A n c) ∧ V'.cell? ⟨w.heap.size, 1, none⟩ = some (.slice A' n' c')) ∧ (V'.cell? ⟨w.heap.size + 1, 0, none⟩ = some (.slice B m d) ∧ V'.cell? ⟨w.heap.size + 1, 1, none⟩ = some (.slice B' m' d')) ∧ (V'.cell? ⟨g1, 0, none⟩ = some (.slice A1 so.ks.length c1) ∧ V'.cell? ⟨g1, 1, none⟩ = some (.slice B1 so.ts.length d1)) ∧ (V'.cell? ⟨g2, 0, none⟩ = some (.slice A2 so.ks.length c2) ∧ V'.cell? ⟨g2, 1, none⟩ = some (.slice B2 so.ts.length d2)) ∧ (V'.cell? ⟨g3, 0, none⟩ = some (.slice A3 sp.ks.length c3) ∧ V'.cell? ⟨g3, 1, none⟩ = some (.slice B3 sp.ts.length d3)) ∧ (V'.cell? ⟨g4, 0, none⟩ = some (.slice A4 sp.ks.length c4) ∧ V'.cell? ⟨g4, 1, none⟩ = some (.slice B4 sp.ts.length d4)))) _) := Lib.hid (show (fun (V' : World) => ((V'.cell? ⟨w.heap.size, 0, none⟩ = some (.slice A n c) ∧ V'.cell? ⟨w.heap.size, 1, none⟩ = some (.slice A' n' c')) ∧ (V'.cell? ⟨w.heap.size + 1, 0, none⟩ = some (.slice B m d) ∧ V'.cell? ⟨w.heap.size + 1, 1, none⟩ = some (.slice B' m' d')) ∧ (V'.cell? ⟨g1, 0, none⟩ = some (.slice A1 so.ks.length c1) ∧ V'.cell? ⟨g1, 1, none⟩ = some (.slice B1 so.ts.length d1)) ∧ (V'.cell? ⟨g2, 0, none⟩ = some (.slice A2 so.ks.length c2) ∧ V'.cell? ⟨g2, 1, none⟩ = some (.slice B2 so.ts.length d2)) ∧ (V'.cell? ⟨g3, 0, none⟩ = some (.slice A3 sp.ks.length c3) ∧ V'.cell? ⟨g3, 1, none⟩ = some (.slice B3 sp.ts.length d3)) ∧ (V'.cell? ⟨g4, 0, none⟩ = some (.slice A4 sp.ks.length c4) ∧ V'.cell? ⟨g4, 1, none⟩ = some (.slice B4 sp.ts.length d4)))) V_.drew from ⟨cells2 (whole_drew N0.out), cells2 (whole_drew N1.out), cells2 (whole_drew P1.out), cells2 (whole_drew P2.out), cells2 (whole_drew P3.out), cells2 (whole_drew P4.out)⟩)
  have BD := Lib.hid ((Below.refl V_.heap.size V_).drew)
  obtain ⟨VD, hVD⟩ : ∃ VD, V_.drew = VD := ⟨_, rfl⟩
  rw [hVD] at BD HT0
  have N0_ := Lib.hid (N0.out.under BD.out)
  have N1_ := Lib.hid (N1.out.under BD.out)
  have N2_ := Lib.hid (N2.out.under BD.out)
  have N3_ := Lib.hid (N3.out.under BD.out)
  have BB_ := Lib.hid (BB.out.trans (BD.out.mono BB.out.size))
  have O1_ := Lib.hid (O1.out.under BD.out)
  have P1_ := Lib.hid (P1.out.under BD.out)
  have O2_ := Lib.hid (O2.out.under BD.out)
  have P2_ := Lib.hid (P2.out.under BD.out)
  have O3_ := Lib.hid (O3.out.under BD.out)
  have P3_ := Lib.hid (P3.out.under BD.out)
  have O4_ := Lib.hid (O4.out.under BD.out)
  have P4_ := Lib.hid (P4.out.under BD.out)
  clear N0 N1 N2 N3 BB O1 P1 O2 P2 O3 P3 O4 P4
  have N0 := N0_
  have N1 := N1_
  have N2 := N2_
  have N3 := N3_
  have BB := BB_
  have O1 := O1_
  have P1 := P1_
  have O2 := O2_
  have P2 := P2_
  have O3 := O3_
  have P3 := P3_
  have O4 := O4_
  have P4 := P4_
  clear N0_ N1_ N2_ N3_ BB_ O1_ P1_ O2_ P2_ O3_ P3_ O4_ P4_
  clear BD
  refine wp_region_T (ls := []) (T := (fun (V' : World) => ((V'.cell? ⟨w.heap.size, 0, none⟩ = some (.slice A n c) ∧ V'.cell? ⟨w.heap.size, 1, none⟩ = some (.slice A' n' c')) ∧ (V'.cell? ⟨w.heap.size + 1, 0, none⟩ = some (.slice B m d) ∧ V'.cell? ⟨w.heap.size + 1, 1, none⟩ = some (.slice B' m' d')) ∧ (V'.cell? ⟨g1, 0, none⟩ = some (.slice A1 so.ks.length c1) ∧ V'.cell? ⟨g1, 1, none⟩ = some (.slice B1 so.ts.length d1)) ∧ (V'.cell? ⟨g2, 0, none⟩ = some (.slice A2 so.ks.length c2) ∧ V'.cell? ⟨g2, 1, none⟩ = some (.slice B2 so.ts.length d2)) ∧ (V'.cell? ⟨g3, 0, none⟩ = some (.slice A3 sp.ks.length c3) ∧ V'.cell? ⟨g3, 1, none⟩ = some (.slice B3 sp.ts.length d3)) ∧ (V'.cell? ⟨g4, 0, none⟩ = some (.slice A4 sp.ks.length c4) ∧ V'.cell? ⟨g4, 1, none⟩ = some (.slice B4 sp.ts.length d4))))) (by kernel_rfl) ?_
  rw [hVD]
  clear hVD
  refine takeT (i := 0) (v := ?_) rfl (by kernel_rfl) (by kernel_rfl) (by kernel_rfl) (by kernel_rfl) (fun _ _ _ h => h) (by rfl) ?_ HT0.out ?_
  rotate_left
  · intro V' hV; obtain ⟨⟨v0, v1⟩, ⟨v2, v3⟩, ⟨v4, v5⟩, ⟨v6, v7⟩, ⟨v8, v9⟩, v10, v11⟩ := hV; go_simp <;> with_reducible rfl
  simp only [Act.put, List.setIfInBounds_toArray, List.set_cons_zero, List.set_cons_succ]
  refine takeT (i := 1) (v := ?_) rfl (by kernel_rfl) (by kernel_rfl) (by kernel_rfl) (by kernel_rfl) (fun _ _ _ h => h) (by rfl) ?_ HT0.out ?_
  rotate_left
  · intro V' hV; obtain ⟨⟨v0, v1⟩, ⟨v2, v3⟩, ⟨v4, v5⟩, ⟨v6, v7⟩, ⟨v8, v9⟩, v10, v11⟩ := hV; go_simp <;> with_reducible rfl
  simp only [Act.put, List.setIfInBounds_toArray, List.set_cons_zero, List.set_cons_succ]
  refine oneT (i := 2) rfl (by kernel_rfl) (by rfl) (fun K hK => ?_)
  go_simp
  go_at_call 14
  refine (refSame_any A1 _ c1 B1 _ d1 so A2 _ c2 B2 _ d2 so _ (O1.out.rd F1.out) (O2.out.rd F1.out)).mono ?_
  rintro e y ⟨rfl, b⟩
  rw [decide_eq_true rfl]
  have N0_ := Lib.hid (N0.out.under b)
  have N1_ := Lib.hid (N1.out.under b)
  have N2_ := Lib.hid (N2.out.under b)
  have N3_ := Lib.hid (N3.out.under b)
  have BB_ := Lib.hid (BB.out.trans (b.mono BB.out.size))
  have O1_ := Lib.hid (O1.out.under b)
  have P1_ := Lib.hid (P1.out.under b)
  have O2_ := Lib.hid (O2.out.under b)
  have P2_ := Lib.hid (P2.out.under b)
  have O3_ := Lib.hid (O3.out.under b)
  have P3_ := Lib.hid (P3.out.under b)
  have O4_ := Lib.hid (O4.out.under b)
  have P4_ := Lib.hid (P4.out.under b)
  clear N0 N1 N2 N3 BB O1 P1 O2 P2 O3 P3 O4 P4
  have N0 := N0_
  have N1 := N1_
  have N2 := N2_
  have N3 := N3_
  have BB := BB_
  have O1 := O1_
  have P1 := P1_
  have O2 := O2_
  have P2 := P2_
  have O3 := O3_
  have P3 := P3_
  have O4 := O4_
  have P4 := P4_
  clear N0_ N1_ N2_ N3_ BB_ O1_ P1_ O2_ P2_ O3_ P3_ O4_ P4_
  have HT1 : Hid ((fun (V' : World) => ((V'.cell? ⟨w.heap.size, 0, none⟩ = some (.slice A n c) ∧ V'.cell? ⟨w.heap.size, 1, none⟩ = some (.slice A' n' c')) ∧ (V'.cell? ⟨w.heap.size + 1, 0, none⟩ = some (.slice B m d) ∧ V'.cell? ⟨w.heap.size + 1, 1, none⟩ = some (.slice B' m' d')) ∧ (V'.cell? ⟨g1, 0, none⟩ = some (.slice A1 so.ks.length c1) ∧ V'.cell? ⟨g1, 1, none⟩ = some (.slice B1 so.ts.length d1)) ∧ (V'.cell? ⟨g2, 0, none⟩ = some (.slice A2 so.ks.length c2) ∧ V'.cell? ⟨g2, 1, none⟩ = some (.slice B2 so.ts.length d2)) ∧ (V'.cell? ⟨g3, 0, none⟩ = some (.slice A3 sp.ks.length c3) ∧ V'.cell? ⟨g3, 1, none⟩ = some (.slice B3 sp.ts.length d3)) ∧ (V'.cell? ⟨g4, 0, none⟩ = some (.slice A4 sp.ks.length c4) ∧ V'.cell? ⟨g4, 1, none⟩ = some (.slice B4 sp.ts.length d4)))) y) := Lib.hid ⟨cells2 N0.out, cells2 N1.out, cells2 P1.out, cells2 P2.out, cells2 P3.out, cells2 P4.out⟩
  refine hK.out _ _ (fun _ => HT1.out) ?_
  clear b hK K HT0
  refine takeP (i := 3) (v := ?_) rfl (by kernel_rfl) (by kernel_rfl) (by kernel_rfl) (by kernel_rfl) (fun _ _ _ h => h) (by rfl) ?_ (fun _ => HT1.out) ?_
  rotate_left
  · intro V'; go_simp <;> with_reducible rfl
  simp only [Act.put, List.setIfInBounds_toArray, List.set_cons_zero, List.set_cons_succ]
  refine takeP (i := 4) (v := ?_) rfl (by kernel_rfl) (by kernel_rfl) (by kernel_rfl) (by kernel_rfl) (fun _ _ _ h => h) (by rfl) ?_ (fun _ => HT1.out) ?_
  rotate_left
  · intro V'; go_simp <;> with_reducible rfl
  simp only [Act.put, List.setIfInBounds_toArray, List.set_cons_zero, List.set_cons_succ]
  refine takeP (i := 5) (v := ?_) rfl (by kernel_rfl) (by kernel_rfl) (by kernel_rfl) (by kernel_rfl) (fun _ _ _ h => h) (by rfl) ?_ (fun _ => HT1.out) ?_
  rotate_left
  · intro V'; go_simp <;> with_reducible rfl
  simp only [Act.put, List.setIfInBounds_toArray, List.set_cons_zero, List.set_cons_succ]
  refine takeP (i := 6) (v := ?_) rfl (by kernel_rfl) (by kernel_rfl) (by kernel_rfl) (by kernel_rfl) (fun _ _ _ h => h) (by rfl) ?_ (fun _ => HT1.out) ?_
  rotate_left
  · intro V'; go_simp <;> with_reducible rfl
  simp only [Act.put, List.setIfInBounds_toArray, List.set_cons_zero, List.set_cons_succ]
  refine takeP (i := 7) (v := ?_) rfl (by kernel_rfl) (by kernel_rfl) (by kernel_rfl) (by kernel_rfl) (fun _ _ _ h => h) (by rfl) ?_ (fun _ => HT1.out) ?_
  rotate_left
  · intro V'; go_simp <;> with_reducible rfl
  simp only [Act.put, List.setIfInBounds_toArray, List.set_cons_zero, List.set_cons_succ]
  refine takeP (i := 8) (v := ?_) rfl (by kernel_rfl) (by kernel_rfl) (by kernel_rfl) (by kernel_rfl) (fun _ _ _ h => h) (by rfl) ?_ (fun _ => HT1.out) ?_
  rotate_left
  · intro V'; go_simp <;> with_reducible rfl
  simp only [Act.put, List.setIfInBounds_toArray, List.set_cons_zero, List.set_cons_succ]
  refine takeP (i := 9) (v := ?_) rfl (by kernel_rfl) (by kernel_rfl) (by kernel_rfl) (by kernel_rfl) (fun _ _ _ h => h) (by rfl) ?_ (fun _ => HT1.out) ?_
  rotate_left
  · intro V'; go_simp <;> with_reducible rfl
  simp only [Act.put, List.setIfInBounds_toArray, List.set_cons_zero, List.set_cons_succ]
  refine takeT (i := 10) (v := ?_) rfl (by kernel_rfl) (by kernel_rfl) (by kernel_rfl) (by kernel_rfl) (fun _ _ _ h => h) (by rfl) ?_ HT1.out ?_
  rotate_left
  · intro V' hV; obtain ⟨⟨v0, v1⟩, ⟨v2, v3⟩, ⟨v4, v5⟩, ⟨v6, v7⟩, ⟨v8, v9⟩, v10, v11⟩ := hV; go_simp <;> with_reducible rfl
  simp only [Act.put, List.setIfInBounds_toArray, List.set_cons_zero, List.set_cons_succ]
  refine takeT (i := 11) (v := ?_) rfl (by kernel_rfl) (by kernel_rfl) (by kernel_rfl) (by kernel_rfl) (fun _ _ _ h => h) (by rfl) ?_ HT1.out ?_
  rotate_left
  · intro V' hV; obtain ⟨⟨v0, v1⟩, ⟨v2, v3⟩, ⟨v4, v5⟩, ⟨v6, v7⟩, ⟨v8, v9⟩, v10, v11⟩ := hV; go_simp <;> with_reducible rfl
  simp only [Act.put, List.setIfInBounds_toArray, List.set_cons_zero, List.set_cons_succ]
  refine oneT (i := 12) rfl (by kernel_rfl) (by rfl) (fun K hK => ?_)
  go_simp
  go_at_call 14
  refine (refSame_any A3 _ c3 B3 _ d3 sp A4 _ c4 B4 _ d4 sp _ (O3.out.rd F2.out) (O4.out.rd F2.out)).mono ?_
  rintro e y ⟨rfl, b⟩
  rw [decide_eq_true rfl]
  have N0_ := Lib.hid (N0.out.under b)
  have N1_ := Lib.hid (N1.out.under b)
  have N2_ := Lib.hid (N2.out.under b)
  have N3_ := Lib.hid (N3.out.under b)
  have BB_ := Lib.hid (BB.out.trans (b.mono BB.out.size))
  have O1_ := Lib.hid (O1.out.under b)
  have P1_ := Lib.hid (P1.out.under b)
  have O2_ := Lib.hid (O2.out.under b)
  have P2_ := Lib.hid (P2.out.under b)
  have O3_ := Lib.hid (O3.out.under b)
  have P3_ := Lib.hid (P3.out.under b)
  have O4_ := Lib.hid (O4.out.under b)
  have P4_ := Lib.hid (P4.out.under b)
  clear N0 N1 N2 N3 BB O1 P1 O2 P2 O3 P3 O4 P4
  have N0 := N0_
  have N1 := N1_
  have N2 := N2_
  have N3 := N3_
  have BB := BB_
  have O1 := O1_
  have P1 := P1_
  have O2 := O2_
  have P2 := P2_
  have O3 := O3_
  have P3 := P3_
  have O4 := O4_
  have P4 := P4_
  clear N0_ N1_ N2_ N3_ BB_ O1_ P1_ O2_ P2_ O3_ P3_ O4_ P4_
  have HT2 : Hid ((fun (V' : World) => ((V'.cell? ⟨w.heap.size, 0, none⟩ = some (.slice A n c) ∧ V'.cell? ⟨w.heap.size, 1, none⟩ = some (.slice A' n' c')) ∧ (V'.cell? ⟨w.heap.size + 1, 0, none⟩ = some (.slice B m d) ∧ V'.cell? ⟨w.heap.size + 1, 1, none⟩ = some (.slice B' m' d')) ∧ (V'.cell? ⟨g1, 0, none⟩ = some (.slice A1 so.ks.length c1) ∧ V'.cell? ⟨g1, 1, none⟩ = some (.slice B1 so.ts.length d1)) ∧ (V'.cell? ⟨g2, 0, none⟩ = some (.slice A2 so.ks.length c2) ∧ V'.cell? ⟨g2, 1, none⟩ = some (.slice B2 so.ts.length d2)) ∧ (V'.cell? ⟨g3, 0, none⟩ = some (.slice A3 sp.ks.length c3) ∧ V'.cell? ⟨g3, 1, none⟩ = some (.slice B3 sp.ts.length d3)) ∧ (V'.cell? ⟨g4, 0, none⟩ = some (.slice A4 sp.ks.length c4) ∧ V'.cell? ⟨g4, 1, none⟩ = some (.slice B4 sp.ts.length d4)))) y) := Lib.hid ⟨cells2 N0.out, cells2 N1.out, cells2 P1.out, cells2 P2.out, cells2 P3.out, cells2 P4.out⟩
  refine hK.out _ _ (fun _ => HT2.out) ?_
  clear b hK K HT1
  refine takeP (i := 13) (v := ?_) rfl (by kernel_rfl) (by kernel_rfl) (by kernel_rfl) (by kernel_rfl) (fun _ _ _ h => h) (by rfl) ?_ (fun _ => HT2.out) ?_
  rotate_left
  · intro V'; go_simp <;> with_reducible rfl
  simp only [Act.put, List.setIfInBounds_toArray, List.set_cons_zero, List.set_cons_succ]
  refine takeP (i := 14) (v := ?_) rfl (by kernel_rfl) (by kernel_rfl) (by kernel_rfl) (by kernel_rfl) (fun _ _ _ h => h) (by rfl) ?_ (fun _ => HT2.out) ?_
  rotate_left
  · intro V'; go_simp <;> with_reducible rfl
  simp only [Act.put, List.setIfInBounds_toArray, List.set_cons_zero, List.set_cons_succ]
  refine takeP (i := 15) (v := ?_) rfl (by kernel_rfl) (by kernel_rfl) (by kernel_rfl) (by kernel_rfl) (fun _ _ _ h => h) (by rfl) ?_ (fun _ => HT2.out) ?_
  rotate_left
  · intro V'; go_simp <;> with_reducible rfl
  simp only [Act.put, List.setIfInBounds_toArray, List.set_cons_zero, List.set_cons_succ]
  refine takeP (i := 16) (v := ?_) rfl (by kernel_rfl) (by kernel_rfl) (by kernel_rfl) (by kernel_rfl) (fun _ _ _ h => h) (by rfl) ?_ (fun _ => HT2.out) ?_
  rotate_left
  · intro V'; go_simp <;> with_reducible rfl
  simp only [Act.put, List.setIfInBounds_toArray, List.set_cons_zero, List.set_cons_succ]
  refine takeP (i := 17) (v := ?_) rfl (by kernel_rfl) (by kernel_rfl) (by kernel_rfl) (by kernel_rfl) (fun _ _ _ h => h) (by rfl) ?_ (fun _ => HT2.out) ?_
  rotate_left
  · intro V'; go_simp <;> with_reducible rfl
  simp only [Act.put, List.setIfInBounds_toArray, List.set_cons_zero, List.set_cons_succ]
  refine takeP (i := 18) (v := ?_) rfl (by kernel_rfl) (by kernel_rfl) (by kernel_rfl) (by kernel_rfl) (fun _ _ _ h => h) (by rfl) ?_ (fun _ => HT2.out) ?_
  rotate_left
  · intro V'; go_simp <;> with_reducible rfl
  simp only [Act.put, List.setIfInBounds_toArray, List.set_cons_zero, List.set_cons_succ]
  refine takeP (i := 19) (v := ?_) rfl (by kernel_rfl) (by kernel_rfl) (by kernel_rfl) (by kernel_rfl) (fun _ _ _ h => h) (by rfl) ?_ (fun _ => HT2.out) ?_
  rotate_left
  · intro V'; go_simp <;> with_reducible rfl
  simp only [Act.put, List.setIfInBounds_toArray, List.set_cons_zero, List.set_cons_succ]
  refine takeP (i := 20) (v := ?_) rfl (by kernel_rfl) (by kernel_rfl) (by kernel_rfl) (by kernel_rfl) (fun _ _ _ h => h) (by rfl) ?_ (fun _ => HT2.out) ?_
  rotate_left
  · intro V'; go_simp <;> with_reducible rfl
  simp only [Act.put, List.setIfInBounds_toArray, List.set_cons_zero, List.set_cons_succ]
  refine takeT (i := 21) (v := ?_) rfl (by kernel_rfl) (by kernel_rfl) (by kernel_rfl) (by kernel_rfl) (fun _ _ _ h => h) (by rfl) ?_ HT2.out ?_
  rotate_left
  · intro V' hV; obtain ⟨⟨v0, v1⟩, ⟨v2, v3⟩, ⟨v4, v5⟩, ⟨v6, v7⟩, ⟨v8, v9⟩, v10, v11⟩ := hV; go_simp <;> with_reducible rfl
  simp only [Act.put, List.setIfInBounds_toArray, List.set_cons_zero, List.set_cons_succ]
  refine takeT (i := 23) (v := ?_) rfl (by kernel_rfl) (by kernel_rfl) (by kernel_rfl) (by kernel_rfl) (fun _ _ _ h => h) (by rfl) ?_ HT2.out ?_
  rotate_left
  · intro V' hV; obtain ⟨⟨v0, v1⟩, ⟨v2, v3⟩, ⟨v4, v5⟩, ⟨v6, v7⟩, ⟨v8, v9⟩, v10, v11⟩ := hV; go_simp <;> with_reducible rfl
  simp only [Act.put, List.setIfInBounds_toArray, List.set_cons_zero, List.set_cons_succ]
  refine oneT (i := 22) rfl (by kernel_rfl) (by rfl) (fun K hK => ?_)
  go_simp
  go_at_call 15
  refine (ownN_any A n c A' n' c' s _ (R0.out.up BB.out)).mono ?_
  rintro e y ⟨A5, c5, B5, d5, rfl, o_, b⟩
  have N0_ := Lib.hid (N0.out.under b)
  have N1_ := Lib.hid (N1.out.under b)
  have N2_ := Lib.hid (N2.out.under b)
  have N3_ := Lib.hid (N3.out.under b)
  have BB_ := Lib.hid (BB.out.trans (b.mono BB.out.size))
  have O1_ := Lib.hid (O1.out.under b)
  have P1_ := Lib.hid (P1.out.under b)
  have O2_ := Lib.hid (O2.out.under b)
  have P2_ := Lib.hid (P2.out.under b)
  have O3_ := Lib.hid (O3.out.under b)
  have P3_ := Lib.hid (P3.out.under b)
  have O4_ := Lib.hid (O4.out.under b)
  have P4_ := Lib.hid (P4.out.under b)
  clear N0 N1 N2 N3 BB O1 P1 O2 P2 O3 P3 O4 P4
  have N0 := N0_
  have N1 := N1_
  have N2 := N2_
  have N3 := N3_
  have BB := BB_
  have O1 := O1_
  have P1 := P1_
  have O2 := O2_
  have P2 := P2_
  have O3 := O3_
  have P3 := P3_
  have O4 := O4_
  have P4 := P4_
  clear N0_ N1_ N2_ N3_ BB_ O1_ P1_ O2_ P2_ O3_ P3_ O4_ P4_
  have O5 := Lib.hid (o_.weaker (Nat.zero_le _))
  clear o_
  have HT3 : Hid ((fun (V' : World) => ((V'.cell? ⟨w.heap.size, 0, none⟩ = some (.slice A n c) ∧ V'.cell? ⟨w.heap.size, 1, none⟩ = some (.slice A' n' c')) ∧ (V'.cell? ⟨w.heap.size + 1, 0, none⟩ = some (.slice B m d) ∧ V'.cell? ⟨w.heap.size + 1, 1, none⟩ = some (.slice B' m' d')) ∧ (V'.cell? ⟨g1, 0, none⟩ = some (.slice A1 so.ks.length c1) ∧ V'.cell? ⟨g1, 1, none⟩ = some (.slice B1 so.ts.length d1)) ∧ (V'.cell? ⟨g2, 0, none⟩ = some (.slice A2 so.ks.length c2) ∧ V'.cell? ⟨g2, 1, none⟩ = some (.slice B2 so.ts.length d2)) ∧ (V'.cell? ⟨g3, 0, none⟩ = some (.slice A3 sp.ks.length c3) ∧ V'.cell? ⟨g3, 1, none⟩ = some (.slice B3 sp.ts.length d3)) ∧ (V'.cell? ⟨g4, 0, none⟩ = some (.slice A4 sp.ks.length c4) ∧ V'.cell? ⟨g4, 1, none⟩ = some (.slice B4 sp.ts.length d4)))) y) := Lib.hid ⟨cells2 N0.out, cells2 N1.out, cells2 P1.out, cells2 P2.out, cells2 P3.out, cells2 P4.out⟩
  refine hK.out _ _ (fun _ => HT3.out) ?_
  clear b hK K HT2
  refine oneT (i := 24) rfl (by kernel_rfl) (by rfl) (fun K hK => ?_)
  go_simp
  go_at_call 14
  refine (refSame_any A5 _ c5 B5 _ d5 s A n c A' n' c' s _ (O5.out.rd FS.out) (R0.out.up BB.out)).mono ?_
  rintro e y ⟨rfl, b⟩
  rw [decide_eq_true rfl]
  have N0_ := Lib.hid (N0.out.under b)
  have N1_ := Lib.hid (N1.out.under b)
  have N2_ := Lib.hid (N2.out.under b)
  have N3_ := Lib.hid (N3.out.under b)
  have BB_ := Lib.hid (BB.out.trans (b.mono BB.out.size))
  have O1_ := Lib.hid (O1.out.under b)
  have P1_ := Lib.hid (P1.out.under b)
  have O2_ := Lib.hid (O2.out.under b)
  have P2_ := Lib.hid (P2.out.under b)
  have O3_ := Lib.hid (O3.out.under b)
  have P3_ := Lib.hid (P3.out.under b)
  have O4_ := Lib.hid (O4.out.under b)
  have P4_ := Lib.hid (P4.out.under b)
  have O5_ := Lib.hid (O5.out.under b)
  clear N0 N1 N2 N3 BB O1 P1 O2 P2 O3 P3 O4 P4 O5
  have N0 := N0_
  have N1 := N1_
  have N2 := N2_
  have N3 := N3_
  have BB := BB_
  have O1 := O1_
  have P1 := P1_
  have O2 := O2_
  have P2 := P2_
  have O3 := O3_
  have P3 := P3_
  have O4 := O4_
  have P4 := P4_
  have O5 := O5_
  clear N0_ N1_ N2_ N3_ BB_ O1_ P1_ O2_ P2_ O3_ P3_ O4_ P4_ O5_
  have HT4 : Hid ((fun (V' : World) => ((V'.cell? ⟨w.heap.size, 0, none⟩ = some (.slice A n c) ∧ V'.cell? ⟨w.heap.size, 1, none⟩ = some (.slice A' n' c')) ∧ (V'.cell? ⟨w.heap.size + 1, 0, none⟩ = some (.slice B m d) ∧ V'.cell? ⟨w.heap.size + 1, 1, none⟩ = some (.slice B' m' d')) ∧ (V'.cell? ⟨g1, 0, none⟩ = some (.slice A1 so.ks.length c1) ∧ V'.cell? ⟨g1, 1, none⟩ = some (.slice B1 so.ts.length d1)) ∧ (V'.cell? ⟨g2, 0, none⟩ = some (.slice A2 so.ks.length c2) ∧ V'.cell? ⟨g2, 1, none⟩ = some (.slice B2 so.ts.length d2)) ∧ (V'.cell? ⟨g3, 0, none⟩ = some (.slice A3 sp.ks.length c3) ∧ V'.cell? ⟨g3, 1, none⟩ = some (.slice B3 sp.ts.length d3)) ∧ (V'.cell? ⟨g4, 0, none⟩ = some (.slice A4 sp.ks.length c4) ∧ V'.cell? ⟨g4, 1, none⟩ = some (.slice B4 sp.ts.length d4)))) y) := Lib.hid ⟨cells2 N0.out, cells2 N1.out, cells2 P1.out, cells2 P2.out, cells2 P3.out, cells2 P4.out⟩
  refine hK.out _ _ (fun _ => HT4.out) ?_
  clear b hK K HT3
  refine takeP (i := 25) (v := ?_) rfl (by kernel_rfl) (by kernel_rfl) (by kernel_rfl) (by kernel_rfl) (fun _ _ _ h => h) (by rfl) ?_ (fun _ => HT4.out) ?_
  rotate_left
  · intro V'; go_simp <;> with_reducible rfl
  simp only [Act.put, List.setIfInBounds_toArray, List.set_cons_zero, List.set_cons_succ]
  refine takeP (i := 26) (v := ?_) rfl (by kernel_rfl) (by kernel_rfl) (by kernel_rfl) (by kernel_rfl) (fun _ _ _ h => h) (by rfl) ?_ (fun _ => HT4.out) ?_
  rotate_left
  · intro V'; go_simp <;> with_reducible rfl
  simp only [Act.put, List.setIfInBounds_toArray, List.set_cons_zero, List.set_cons_succ]
  refine takeP (i := 27) (v := ?_) rfl (by kernel_rfl) (by kernel_rfl) (by kernel_rfl) (by kernel_rfl) (fun _ _ _ h => h) (by rfl) ?_ (fun _ => HT4.out) ?_
  rotate_left
  · intro V'; go_simp <;> with_reducible rfl
  simp only [Act.put, List.setIfInBounds_toArray, List.set_cons_zero, List.set_cons_succ]
  refine takeT (i := 28) (v := ?_) rfl (by kernel_rfl) (by kernel_rfl) (by kernel_rfl) (by kernel_rfl) (fun _ _ _ h => h) (by rfl) ?_ HT4.out ?_
  rotate_left
  · intro V' hV; obtain ⟨⟨v0, v1⟩, ⟨v2, v3⟩, ⟨v4, v5⟩, ⟨v6, v7⟩, ⟨v8, v9⟩, v10, v11⟩ := hV; go_simp <;> with_reducible rfl
  simp only [Act.put, List.setIfInBounds_toArray, List.set_cons_zero, List.set_cons_succ]
  refine takeT (i := 29) (v := ?_) rfl (by kernel_rfl) (by kernel_rfl) (by kernel_rfl) (by kernel_rfl) (fun _ _ _ h => h) (by rfl) ?_ HT4.out ?_
  rotate_left
  · intro V' hV; obtain ⟨⟨v0, v1⟩, ⟨v2, v3⟩, ⟨v4, v5⟩, ⟨v6, v7⟩, ⟨v8, v9⟩, v10, v11⟩ := hV; go_simp <;> with_reducible rfl
  simp only [Act.put, List.setIfInBounds_toArray, List.set_cons_zero, List.set_cons_succ]
  refine takeT (i := 31) (v := ?_) rfl (by kernel_rfl) (by kernel_rfl) (by kernel_rfl) (by kernel_rfl) (fun _ _ _ h => h) (by rfl) ?_ HT4.out ?_
  rotate_left
  · intro V' hV; obtain ⟨⟨v0, v1⟩, ⟨v2, v3⟩, ⟨v4, v5⟩, ⟨v6, v7⟩, ⟨v8, v9⟩, v10, v11⟩ := hV; go_simp <;> with_reducible rfl
  simp only [Act.put, List.setIfInBounds_toArray, List.set_cons_zero, List.set_cons_succ]
  refine takeT (i := 32) (v := ?_) rfl (by kernel_rfl) (by kernel_rfl) (by kernel_rfl) (by kernel_rfl) (fun _ _ _ h => h) (by rfl) ?_ HT4.out ?_
  rotate_left
  · intro V' hV; obtain ⟨⟨v0, v1⟩, ⟨v2, v3⟩, ⟨v4, v5⟩, ⟨v6, v7⟩, ⟨v8, v9⟩, v10, v11⟩ := hV; go_simp <;> with_reducible rfl
  simp only [Act.put, List.setIfInBounds_toArray, List.set_cons_zero, List.set_cons_succ]
  obtain ⟨r, hres⟩ : ∃ r, decide (s = s2) = r := ⟨_, rfl⟩
  have HRES := Lib.hid hres
  clear hres
  refine oneT (i := 30) rfl (by kernel_rfl) (by rfl) (fun K hK => ?_)
  go_simp
  go_at_call 16
  refine (sameN_any A n c A' n' c' s B m d B' m' d' s2 _ (R0.out.up BB.out) (R1.out.up BB.out)).mono ?_
  rintro e y ⟨rfl, b⟩
  rw [HRES.out]
  have N0_ := Lib.hid (N0.out.under b)
  have N1_ := Lib.hid (N1.out.under b)
  have N2_ := Lib.hid (N2.out.under b)
  have N3_ := Lib.hid (N3.out.under b)
  have BB_ := Lib.hid (BB.out.trans (b.mono BB.out.size))
  have O1_ := Lib.hid (O1.out.under b)
  have P1_ := Lib.hid (P1.out.under b)
  have O2_ := Lib.hid (O2.out.under b)
  have P2_ := Lib.hid (P2.out.under b)
  have O3_ := Lib.hid (O3.out.under b)
  have P3_ := Lib.hid (P3.out.under b)
  have O4_ := Lib.hid (O4.out.under b)
  have P4_ := Lib.hid (P4.out.under b)
  have O5_ := Lib.hid (O5.out.under b)
  clear N0 N1 N2 N3 BB O1 P1 O2 P2 O3 P3 O4 P4 O5
  have N0 := N0_
  have N1 := N1_
  have N2 := N2_
  have N3 := N3_
  have BB := BB_
  have O1 := O1_
  have P1 := P1_
  have O2 := O2_
  have P2 := P2_
  have O3 := O3_
  have P3 := P3_
  have O4 := O4_
  have P4 := P4_
  have O5 := O5_
  clear N0_ N1_ N2_ N3_ BB_ O1_ P1_ O2_ P2_ O3_ P3_ O4_ P4_ O5_
  have HT5 : Hid ((fun (V' : World) => ((V'.cell? ⟨w.heap.size, 0, none⟩ = some (.slice A n c) ∧ V'.cell? ⟨w.heap.size, 1, none⟩ = some (.slice A' n' c')) ∧ (V'.cell? ⟨w.heap.size + 1, 0, none⟩ = some (.slice B m d) ∧ V'.cell? ⟨w.heap.size + 1, 1, none⟩ = some (.slice B' m' d')) ∧ (V'.cell? ⟨g1, 0, none⟩ = some (.slice A1 so.ks.length c1) ∧ V'.cell? ⟨g1, 1, none⟩ = some (.slice B1 so.ts.length d1)) ∧ (V'.cell? ⟨g2, 0, none⟩ = some (.slice A2 so.ks.length c2) ∧ V'.cell? ⟨g2, 1, none⟩ = some (.slice B2 so.ts.length d2)) ∧ (V'.cell? ⟨g3, 0, none⟩ = some (.slice A3 sp.ks.length c3) ∧ V'.cell? ⟨g3, 1, none⟩ = some (.slice B3 sp.ts.length d3)) ∧ (V'.cell? ⟨g4, 0, none⟩ = some (.slice A4 sp.ks.length c4) ∧ V'.cell? ⟨g4, 1, none⟩ = some (.slice B4 sp.ts.length d4)))) y) := Lib.hid ⟨cells2 N0.out, cells2 N1.out, cells2 P1.out, cells2 P2.out, cells2 P3.out, cells2 P4.out⟩
  refine hK.out _ _ (fun _ => HT5.out) ?_
  clear b hK K HT4
  refine oneT (i := 33) rfl (by kernel_rfl) (by rfl) (fun K hK => ?_)
  go_simp
  go_at_call 14
  refine (refSame_any A n c A' n' c' s B m d B' m' d' s2 _ (R0.out.up BB.out) (R1.out.up BB.out)).mono ?_
  rintro e y ⟨rfl, b⟩
  rw [HRES.out]
  have N0_ := Lib.hid (N0.out.under b)
  have N1_ := Lib.hid (N1.out.under b)
  have N2_ := Lib.hid (N2.out.under b)
  have N3_ := Lib.hid (N3.out.under b)
  have BB_ := Lib.hid (BB.out.trans (b.mono BB.out.size))
  have O1_ := Lib.hid (O1.out.under b)
  have P1_ := Lib.hid (P1.out.under b)
  have O2_ := Lib.hid (O2.out.under b)
  have P2_ := Lib.hid (P2.out.under b)
  have O3_ := Lib.hid (O3.out.under b)
  have P3_ := Lib.hid (P3.out.under b)
  have O4_ := Lib.hid (O4.out.under b)
  have P4_ := Lib.hid (P4.out.under b)
  have O5_ := Lib.hid (O5.out.under b)
  clear N0 N1 N2 N3 BB O1 P1 O2 P2 O3 P3 O4 P4 O5
  have N0 := N0_
  have N1 := N1_
  have N2 := N2_
  have N3 := N3_
  have BB := BB_
  have O1 := O1_
  have P1 := P1_
  have O2 := O2_
  have P2 := P2_
  have O3 := O3_
  have P3 := P3_
  have O4 := O4_
  have P4 := P4_
  have O5 := O5_
  clear N0_ N1_ N2_ N3_ BB_ O1_ P1_ O2_ P2_ O3_ P3_ O4_ P4_ O5_
  have HT6 : Hid ((fun (V' : World) => ((V'.cell? ⟨w.heap.size, 0, none⟩ = some (.slice A n c) ∧ V'.cell? ⟨w.heap.size, 1, none⟩ = some (.slice A' n' c')) ∧ (V'.cell? ⟨w.heap.size + 1, 0, none⟩ = some (.slice B m d) ∧ V'.cell? ⟨w.heap.size + 1, 1, none⟩ = some (.slice B' m' d')) ∧ (V'.cell? ⟨g1, 0, none⟩ = some (.slice A1 so.ks.length c1) ∧ V'.cell? ⟨g1, 1, none⟩ = some (.slice B1 so.ts.length d1)) ∧ (V'.cell? ⟨g2, 0, none⟩ = some (.slice A2 so.ks.length c2) ∧ V'.cell? ⟨g2, 1, none⟩ = some (.slice B2 so.ts.length d2)) ∧ (V'.cell? ⟨g3, 0, none⟩ = some (.slice A3 sp.ks.length c3) ∧ V'.cell? ⟨g3, 1, none⟩ = some (.slice B3 sp.ts.length d3)) ∧ (V'.cell? ⟨g4, 0, none⟩ = some (.slice A4 sp.ks.length c4) ∧ V'.cell? ⟨g4, 1, none⟩ = some (.slice B4 sp.ts.length d4)))) y) := Lib.hid ⟨cells2 N0.out, cells2 N1.out, cells2 P1.out, cells2 P2.out, cells2 P3.out, cells2 P4.out⟩
  refine hK.out _ _ (fun _ => HT6.out) ?_
  clear b hK K HT5
  refine takeP (i := 34) (v := ?_) rfl (by kernel_rfl) (by kernel_rfl) (by kernel_rfl) (by kernel_rfl) (fun _ _ _ h => h) (by rfl) ?_ (fun _ => HT6.out) ?_
  rotate_left
  · intro V'; go_simp <;> with_reducible rfl
  simp only [Act.put, List.setIfInBounds_toArray, List.set_cons_zero, List.set_cons_succ]
  refine takeP (i := 35) (v := ?_) rfl (by kernel_rfl) (by kernel_rfl) (by kernel_rfl) (by kernel_rfl) (fun _ _ _ h => h) (by rfl) ?_ (fun _ => HT6.out) ?_
  rotate_left
  · intro V'; go_simp <;> with_reducible rfl
  simp only [Act.put, List.setIfInBounds_toArray, List.set_cons_zero, List.set_cons_succ]
  refine doneT (by kernel_rfl) ?_ _
  clear O1 O2 O3 O4 O5
  clear HT6 HRES F1 F2 E1 E2 E3 E4 R1 T0
  clear N1 N2 N3
  obtain ⟨qa, hqa⟩ : ∃ qa, (askA s z).getD ⟨0, 0, 0, 0, 0, 0⟩ = qa := ⟨_, rfl⟩
  have HQA := Lib.hid hqa
  clear hqa
  go_upto_region 9 with fail
  obtain ⟨x0, x1⟩ := cells2 N0.out
  go_wp2_with fail
  refine Calls.mono (ask_any A n c A' n' c' s z _ (R0.out.up BB.out)) ?_
  rintro e y ⟨A6, c6, B6, d6, q_, rfl, hq, o_, b⟩
  rw [HQA.out] at hq
  have hq := hq.symm
  subst hq
  rw [E5.out] at o_ ⊢
  rw [E9.out]
  have N0_ := Lib.hid (N0.out.under b)
  have BB_ := Lib.hid (BB.out.trans (b.mono BB.out.size))
  have P1_ := Lib.hid (P1.out.under b)
  have P2_ := Lib.hid (P2.out.under b)
  have P3_ := Lib.hid (P3.out.under b)
  have P4_ := Lib.hid (P4.out.under b)
  clear N0 BB P1 P2 P3 P4
  have N0 := N0_
  have BB := BB_
  have P1 := P1_
  have P2 := P2_
  have P3 := P3_
  have P4 := P4_
  clear N0_ BB_ P1_ P2_ P3_ P4_
  have O6 := Lib.hid (o_.weaker (Nat.zero_le _))
  clear o_ b x0 x1
  have pa := P1.out.alloc (.cells #[.int .u8 0, .int .i64 0, .int .i64 0, .int .i64 0, .int .i64 0, .int .i64 0] 27)
  have na := Whole.new y 27 #[.int .u8 0, .int .i64 0, .int .i64 0, .int .i64 0, .int .i64 0, .int .i64 0]
  obtain ⟨x0, x1⟩ := cells2 pa
  have f0 := pa.frozen 0
  have f1 := pa.frozen 1
  obtain ⟨y0, y1, y2, y3, y4, y5⟩ := cellsW6 na
  have k0 := na.frozen 0
  have k1 := na.frozen 1
  have k2 := na.frozen 2
  have k3 := na.frozen 3
  have k4 := na.frozen 4
  have k5 := na.frozen 5
  have ne1 : g1 ≠ y.heap.size := by have := P1.out.lt; omega
  have ne2 : y.heap.size ≠ g1 := fun h => ne1 h.symm
  clear pa na
  go_upto_region 10 with fail
  refine wp_at (fun V_ hV_ => ?_)
  obtain ⟨p_, n_, far_, bel_, own_⟩ := put_new P1.out (.int .u8 0) (.int .i64 0) (.int .i64 0) (.int .i64 0) (.int .i64 0) (.int .i64 0) (.slice A6 sa.ks.length c6) (.slice B6 sa.ts.length d6) (.int .u8 qa.kind) (.int .i64 qa.call) (.int .i64 qa.a) (.int .i64 qa.b) (.int .i64 qa.c) (.int .i64 qa.d) hV_
  have LT_ := Lib.hid P4.out.lt
  obtain ⟨g6, hg_⟩ : ∃ g, y.heap.size = g := ⟨_, rfl⟩
  have G6 : Hid (g4 < g6) := Lib.hid (by rw [← hg_]; exact LT_.out)
  rw [hg_] at n_ bel_
  rw [hg_]
  clear LT_
  have N0_ := Lib.hid (far_ _ _ _ N0.out (by have := G1.out; have := G2.out; have := G3.out; have := G4.out; have := G6.out; omega))
  have BB_ := Lib.hid (bel_ _ _ BB.out (by have := G1.out; have := G2.out; have := G3.out; have := G4.out; have := G6.out; omega) (by have := G1.out; have := G2.out; have := G3.out; have := G4.out; have := G6.out; omega))
  have P1_ := Lib.hid p_
  have P2_ := Lib.hid (far_ _ _ _ P2.out (by have := G1.out; have := G2.out; have := G3.out; have := G4.out; have := G6.out; omega))
  have P3_ := Lib.hid (far_ _ _ _ P3.out (by have := G1.out; have := G2.out; have := G3.out; have := G4.out; have := G6.out; omega))
  have P4_ := Lib.hid (far_ _ _ _ P4.out (by have := G1.out; have := G2.out; have := G3.out; have := G4.out; have := G6.out; omega))
  have O6_ := Lib.hid (O6.out.of own_)
  clear N0 BB P1 P2 P3 P4 O6
  have N0 := N0_
  have BB := BB_
  have P1 := P1_
  have P2 := P2_
  have P3 := P3_
  have P4 := P4_
  have O6 := O6_
  clear N0_ BB_ P1_ P2_ P3_ P4_ O6_
  have M6 := Lib.hid (n_)
  clear hV_ p_ n_ far_ bel_ own_ hg_ x0 x1 y0 y1 y2 y3 y4 y5 f0 f1 k0 k1 k2 k3 k4 k5 ne1 ne2
  obtain ⟨x0, x1⟩ := cells2 N0.out
  go_wp2_with fail
  refine Calls.mono (refAsk_any A n c A' n' c' s z _ (R0.out.up BB.out)) ?_
  rintro e y ⟨A7, c7, B7, d7, q_, rfl, hq, o_, b⟩
  rw [HQA.out] at hq
  have hq := hq.symm
  subst hq
  rw [E5.out] at o_ ⊢
  rw [E9.out]
  have N0_ := Lib.hid (N0.out.under b)
  have BB_ := Lib.hid (BB.out.trans (b.mono BB.out.size))
  have P1_ := Lib.hid (P1.out.under b)
  have P2_ := Lib.hid (P2.out.under b)
  have P3_ := Lib.hid (P3.out.under b)
  have P4_ := Lib.hid (P4.out.under b)
  have O6_ := Lib.hid (O6.out.under b)
  have M6_ := Lib.hid (M6.out.under b)
  clear N0 BB P1 P2 P3 P4 O6 M6
  have N0 := N0_
  have BB := BB_
  have P1 := P1_
  have P2 := P2_
  have P3 := P3_
  have P4 := P4_
  have O6 := O6_
  have M6 := M6_
  clear N0_ BB_ P1_ P2_ P3_ P4_ O6_ M6_
  have O7 := Lib.hid (o_.weaker (Nat.zero_le _))
  clear o_ b x0 x1
  have pa := P2.out.alloc (.cells #[.int .u8 0, .int .i64 0, .int .i64 0, .int .i64 0, .int .i64 0, .int .i64 0] 27)
  have na := Whole.new y 27 #[.int .u8 0, .int .i64 0, .int .i64 0, .int .i64 0, .int .i64 0, .int .i64 0]
  obtain ⟨x0, x1⟩ := cells2 pa
  have f0 := pa.frozen 0
  have f1 := pa.frozen 1
  obtain ⟨y0, y1, y2, y3, y4, y5⟩ := cellsW6 na
  have k0 := na.frozen 0
  have k1 := na.frozen 1
  have k2 := na.frozen 2
  have k3 := na.frozen 3
  have k4 := na.frozen 4
  have k5 := na.frozen 5
  have ne1 : g2 ≠ y.heap.size := by have := P2.out.lt; omega
  have ne2 : y.heap.size ≠ g2 := fun h => ne1 h.symm
  clear pa na
  go_upto_region 11 with fail
  refine wp_at (fun V_ hV_ => ?_)
  obtain ⟨p_, n_, far_, bel_, own_⟩ := put_new P2.out (.int .u8 0) (.int .i64 0) (.int .i64 0) (.int .i64 0) (.int .i64 0) (.int .i64 0) (.slice A7 sa.ks.length c7) (.slice B7 sa.ts.length d7) (.int .u8 qa.kind) (.int .i64 qa.call) (.int .i64 qa.a) (.int .i64 qa.b) (.int .i64 qa.c) (.int .i64 qa.d) hV_
  have LT_ := Lib.hid M6.out.lt
  obtain ⟨g7, hg_⟩ : ∃ g, y.heap.size = g := ⟨_, rfl⟩
  have G7 : Hid (g6 < g7) := Lib.hid (by rw [← hg_]; exact LT_.out)
  rw [hg_] at n_ bel_
  rw [hg_]
  clear LT_
  have N0_ := Lib.hid (far_ _ _ _ N0.out (by have := G1.out; have := G2.out; have := G3.out; have := G4.out; have := G6.out; have := G7.out; omega))
  have BB_ := Lib.hid (bel_ _ _ BB.out (by have := G1.out; have := G2.out; have := G3.out; have := G4.out; have := G6.out; have := G7.out; omega) (by have := G1.out; have := G2.out; have := G3.out; have := G4.out; have := G6.out; have := G7.out; omega))
  have P1_ := Lib.hid (far_ _ _ _ P1.out (by have := G1.out; have := G2.out; have := G3.out; have := G4.out; have := G6.out; have := G7.out; omega))
  have P2_ := Lib.hid p_
  have P3_ := Lib.hid (far_ _ _ _ P3.out (by have := G1.out; have := G2.out; have := G3.out; have := G4.out; have := G6.out; have := G7.out; omega))
  have P4_ := Lib.hid (far_ _ _ _ P4.out (by have := G1.out; have := G2.out; have := G3.out; have := G4.out; have := G6.out; have := G7.out; omega))
  have O6_ := Lib.hid (O6.out.of own_)
  have M6_ := Lib.hid (far_ _ _ _ M6.out (by have := G1.out; have := G2.out; have := G3.out; have := G4.out; have := G6.out; have := G7.out; omega))
  have O7_ := Lib.hid (O7.out.of own_)
  clear N0 BB P1 P2 P3 P4 O6 M6 O7
  have N0 := N0_
  have BB := BB_
  have P1 := P1_
  have P2 := P2_
  have P3 := P3_
  have P4 := P4_
  have O6 := O6_
  have M6 := M6_
  have O7 := O7_
  clear N0_ BB_ P1_ P2_ P3_ P4_ O6_ M6_ O7_
  have M7 := Lib.hid (n_)
  clear hV_ p_ n_ far_ bel_ own_ hg_ x0 x1 y0 y1 y2 y3 y4 y5 f0 f1 k0 k1 k2 k3 k4 k5 ne1 ne2
  obtain ⟨x0, x1⟩ := cells2 N0.out
  go_wp2_with fail
  refine Calls.mono (tell_any A n c A' n' c' s z _ (R0.out.up BB.out)) ?_
  rintro e y ⟨A8, c8, B8, d8, x8, rfl, hq, ox, o_, b⟩
  rw [E6.out] at o_ ⊢
  rw [E10.out]
  have N0_ := Lib.hid (N0.out.under b)
  have BB_ := Lib.hid (BB.out.trans (b.mono BB.out.size))
  have P1_ := Lib.hid (P1.out.under b)
  have P2_ := Lib.hid (P2.out.under b)
  have P3_ := Lib.hid (P3.out.under b)
  have P4_ := Lib.hid (P4.out.under b)
  have O6_ := Lib.hid (O6.out.under b)
  have M6_ := Lib.hid (M6.out.under b)
  have O7_ := Lib.hid (O7.out.under b)
  have M7_ := Lib.hid (M7.out.under b)
  clear N0 BB P1 P2 P3 P4 O6 M6 O7 M7
  have N0 := N0_
  have BB := BB_
  have P1 := P1_
  have P2 := P2_
  have P3 := P3_
  have P4 := P4_
  have O6 := O6_
  have M6 := M6_
  have O7 := O7_
  have M7 := M7_
  clear N0_ BB_ P1_ P2_ P3_ P4_ O6_ M6_ O7_ M7_
  have O8 := Lib.hid (o_.weaker (Nat.zero_le _))
  have S8 := Lib.hid (own_weaker (base := 0) ox (Nat.zero_le _))
  have HX8 := Lib.hid hq
  have HY8 := Lib.hid (HLEN.out _ hq)
  clear hq ox
  clear o_ b x0 x1
  have pa := P3.out.alloc (.cells #[.int .i64 0, .int .u8 0, .int .u8 0, .int .i64 0, .slice none 0 0, .bool false] 30)
  have na := Whole.new y 30 #[.int .i64 0, .int .u8 0, .int .u8 0, .int .i64 0, .slice none 0 0, .bool false]
  obtain ⟨x0, x1⟩ := cells2 pa
  have f0 := pa.frozen 0
  have f1 := pa.frozen 1
  obtain ⟨y0, y1, y2, y3, y4, y5⟩ := cellsW6 na
  have k0 := na.frozen 0
  have k1 := na.frozen 1
  have k2 := na.frozen 2
  have k3 := na.frozen 3
  have k4 := na.frozen 4
  have k5 := na.frozen 5
  have ne1 : g3 ≠ y.heap.size := by have := P3.out.lt; omega
  have ne2 : y.heap.size ≠ g3 := fun h => ne1 h.symm
  clear pa na
  go_upto_region 12 with fail
  refine wp_at (fun V_ hV_ => ?_)
  obtain ⟨p_, n_, far_, bel_, own_⟩ := put_new P3.out (.int .i64 0) (.int .u8 0) (.int .u8 0) (.int .i64 0) (.slice none 0 0) (.bool false) (.slice A8 st.ks.length c8) (.slice B8 st.ts.length d8) (.int .i64 x8.call) (.int .u8 x8.kind) (.int .u8 x8.code) (.int .i64 x8.id) (.slice x8.A x8.n x8.c) (.bool x8.more) hV_
  have LT_ := Lib.hid M7.out.lt
  obtain ⟨g8, hg_⟩ : ∃ g, y.heap.size = g := ⟨_, rfl⟩
  have G8 : Hid (g7 < g8) := Lib.hid (by rw [← hg_]; exact LT_.out)
  rw [hg_] at n_ bel_
  rw [hg_]
  clear LT_
  have N0_ := Lib.hid (far_ _ _ _ N0.out (by have := G1.out; have := G2.out; have := G3.out; have := G4.out; have := G6.out; have := G7.out; have := G8.out; omega))
  have BB_ := Lib.hid (bel_ _ _ BB.out (by have := G1.out; have := G2.out; have := G3.out; have := G4.out; have := G6.out; have := G7.out; have := G8.out; omega) (by have := G1.out; have := G2.out; have := G3.out; have := G4.out; have := G6.out; have := G7.out; have := G8.out; omega))
  have P1_ := Lib.hid (far_ _ _ _ P1.out (by have := G1.out; have := G2.out; have := G3.out; have := G4.out; have := G6.out; have := G7.out; have := G8.out; omega))
  have P2_ := Lib.hid (far_ _ _ _ P2.out (by have := G1.out; have := G2.out; have := G3.out; have := G4.out; have := G6.out; have := G7.out; have := G8.out; omega))
  have P3_ := Lib.hid p_
  have P4_ := Lib.hid (far_ _ _ _ P4.out (by have := G1.out; have := G2.out; have := G3.out; have := G4.out; have := G6.out; have := G7.out; have := G8.out; omega))
  have O6_ := Lib.hid (O6.out.of own_)
  have M6_ := Lib.hid (far_ _ _ _ M6.out (by have := G1.out; have := G2.out; have := G3.out; have := G4.out; have := G6.out; have := G7.out; have := G8.out; omega))
  have O7_ := Lib.hid (O7.out.of own_)
  have M7_ := Lib.hid (far_ _ _ _ M7.out (by have := G1.out; have := G2.out; have := G3.out; have := G4.out; have := G6.out; have := G7.out; have := G8.out; omega))
  have O8_ := Lib.hid (O8.out.of own_)
  have S8_ := Lib.hid (own_ _ _ _ _ _ _ S8.out (by decide))
  clear N0 BB P1 P2 P3 P4 O6 M6 O7 M7 O8 S8
  have N0 := N0_
  have BB := BB_
  have P1 := P1_
  have P2 := P2_
  have P3 := P3_
  have P4 := P4_
  have O6 := O6_
  have M6 := M6_
  have O7 := O7_
  have M7 := M7_
  have O8 := O8_
  have S8 := S8_
  clear N0_ BB_ P1_ P2_ P3_ P4_ O6_ M6_ O7_ M7_ O8_ S8_
  have M8 := Lib.hid (n_)
  clear hV_ p_ n_ far_ bel_ own_ hg_ x0 x1 y0 y1 y2 y3 y4 y5 f0 f1 k0 k1 k2 k3 k4 k5 ne1 ne2
  obtain ⟨x0, x1⟩ := cells2 N0.out
  go_wp2_with fail
  refine Calls.mono (refTell_any A n c A' n' c' s z _ (R0.out.up BB.out)) ?_
  rintro e y ⟨A9, c9, B9, d9, x9, rfl, hq, ox, o_, b⟩
  rw [E6.out] at o_ ⊢
  rw [E10.out]
  have N0_ := Lib.hid (N0.out.under b)
  have BB_ := Lib.hid (BB.out.trans (b.mono BB.out.size))
  have P1_ := Lib.hid (P1.out.under b)
  have P2_ := Lib.hid (P2.out.under b)
  have P3_ := Lib.hid (P3.out.under b)
  have P4_ := Lib.hid (P4.out.under b)
  have O6_ := Lib.hid (O6.out.under b)
  have M6_ := Lib.hid (M6.out.under b)
  have O7_ := Lib.hid (O7.out.under b)
  have M7_ := Lib.hid (M7.out.under b)
  have O8_ := Lib.hid (O8.out.under b)
  have S8_ := Lib.hid (own_under S8.out b)
  have M8_ := Lib.hid (M8.out.under b)
  clear N0 BB P1 P2 P3 P4 O6 M6 O7 M7 O8 S8 M8
  have N0 := N0_
  have BB := BB_
  have P1 := P1_
  have P2 := P2_
  have P3 := P3_
  have P4 := P4_
  have O6 := O6_
  have M6 := M6_
  have O7 := O7_
  have M7 := M7_
  have O8 := O8_
  have S8 := S8_
  have M8 := M8_
  clear N0_ BB_ P1_ P2_ P3_ P4_ O6_ M6_ O7_ M7_ O8_ S8_ M8_
  have O9 := Lib.hid (o_.weaker (Nat.zero_le _))
  have S9 := Lib.hid (own_weaker (base := 0) ox (Nat.zero_le _))
  have HX9 := Lib.hid hq
  have HY9 := Lib.hid (HLEN.out _ hq)
  clear hq ox
  clear o_ b x0 x1
  have pa := P4.out.alloc (.cells #[.int .i64 0, .int .u8 0, .int .u8 0, .int .i64 0, .slice none 0 0, .bool false] 30)
  have na := Whole.new y 30 #[.int .i64 0, .int .u8 0, .int .u8 0, .int .i64 0, .slice none 0 0, .bool false]
  obtain ⟨x0, x1⟩ := cells2 pa
  have f0 := pa.frozen 0
  have f1 := pa.frozen 1
  obtain ⟨y0, y1, y2, y3, y4, y5⟩ := cellsW6 na
  have k0 := na.frozen 0
  have k1 := na.frozen 1
  have k2 := na.frozen 2
  have k3 := na.frozen 3
  have k4 := na.frozen 4
  have k5 := na.frozen 5
  have ne1 : g4 ≠ y.heap.size := by have := P4.out.lt; omega
  have ne2 : y.heap.size ≠ g4 := fun h => ne1 h.symm
  clear pa na
  go_upto_region 13 with fail
  refine wp_at (fun V_ hV_ => ?_)
  obtain ⟨p_, n_, far_, bel_, own_⟩ := put_new P4.out (.int .i64 0) (.int .u8 0) (.int .u8 0) (.int .i64 0) (.slice none 0 0) (.bool false) (.slice A9 st.ks.length c9) (.slice B9 st.ts.length d9) (.int .i64 x9.call) (.int .u8 x9.kind) (.int .u8 x9.code) (.int .i64 x9.id) (.slice x9.A x9.n x9.c) (.bool x9.more) hV_
  have LT_ := Lib.hid M8.out.lt
  obtain ⟨g9, hg_⟩ : ∃ g, y.heap.size = g := ⟨_, rfl⟩
  have G9 : Hid (g8 < g9) := Lib.hid (by rw [← hg_]; exact LT_.out)
  rw [hg_] at n_ bel_
  rw [hg_]
  clear LT_
  have N0_ := Lib.hid (far_ _ _ _ N0.out (by have := G1.out; have := G2.out; have := G3.out; have := G4.out; have := G6.out; have := G7.out; have := G8.out; have := G9.out; omega))
  have BB_ := Lib.hid (bel_ _ _ BB.out (by have := G1.out; have := G2.out; have := G3.out; have := G4.out; have := G6.out; have := G7.out; have := G8.out; have := G9.out; omega) (by have := G1.out; have := G2.out; have := G3.out; have := G4.out; have := G6.out; have := G7.out; have := G8.out; have := G9.out; omega))
  have P1_ := Lib.hid (far_ _ _ _ P1.out (by have := G1.out; have := G2.out; have := G3.out; have := G4.out; have := G6.out; have := G7.out; have := G8.out; have := G9.out; omega))
  have P2_ := Lib.hid (far_ _ _ _ P2.out (by have := G1.out; have := G2.out; have := G3.out; have := G4.out; have := G6.out; have := G7.out; have := G8.out; have := G9.out; omega))
  have P3_ := Lib.hid (far_ _ _ _ P3.out (by have := G1.out; have := G2.out; have := G3.out; have := G4.out; have := G6.out; have := G7.out; have := G8.out; have := G9.out; omega))
  have P4_ := Lib.hid p_
  have O6_ := Lib.hid (O6.out.of own_)
  have M6_ := Lib.hid (far_ _ _ _ M6.out (by have := G1.out; have := G2.out; have := G3.out; have := G4.out; have := G6.out; have := G7.out; have := G8.out; have := G9.out; omega))
  have O7_ := Lib.hid (O7.out.of own_)
  have M7_ := Lib.hid (far_ _ _ _ M7.out (by have := G1.out; have := G2.out; have := G3.out; have := G4.out; have := G6.out; have := G7.out; have := G8.out; have := G9.out; omega))
  have O8_ := Lib.hid (O8.out.of own_)
  have S8_ := Lib.hid (own_ _ _ _ _ _ _ S8.out (by decide))
  have M8_ := Lib.hid (far_ _ _ _ M8.out (by have := G1.out; have := G2.out; have := G3.out; have := G4.out; have := G6.out; have := G7.out; have := G8.out; have := G9.out; omega))
  have O9_ := Lib.hid (O9.out.of own_)
  have S9_ := Lib.hid (own_ _ _ _ _ _ _ S9.out (by decide))
  clear N0 BB P1 P2 P3 P4 O6 M6 O7 M7 O8 S8 M8 O9 S9
  have N0 := N0_
  have BB := BB_
  have P1 := P1_
  have P2 := P2_
  have P3 := P3_
  have P4 := P4_
  have O6 := O6_
  have M6 := M6_
  have O7 := O7_
  have M7 := M7_
  have O8 := O8_
  have S8 := S8_
  have M8 := M8_
  have O9 := O9_
  have S9 := S9_
  clear N0_ BB_ P1_ P2_ P3_ P4_ O6_ M6_ O7_ M7_ O8_ S8_ M8_ O9_ S9_
  have M9 := Lib.hid (n_)
  clear hV_ p_ n_ far_ bel_ own_ hg_ x0 x1 y0 y1 y2 y3 y4 y5 f0 f1 k0 k1 k2 k3 k4 k5 ne1 ne2
  obtain ⟨x0, x1⟩ := cells2 P1.out
  obtain ⟨y0, y1⟩ := cells2 P2.out
  go_wp2_with fail
  refine Calls.mono (refSame_any A6 _ c6 B6 _ d6 sa A7 _ c7 B7 _ d7 sa _ (O6.out.rd F3.out) (O7.out.rd F3.out)) ?_
  rintro e y ⟨rfl, b⟩
  rw [decide_eq_true rfl]
  have N0_ := Lib.hid (N0.out.under b)
  have BB_ := Lib.hid (BB.out.trans (b.mono BB.out.size))
  have P1_ := Lib.hid (P1.out.under b)
  have P2_ := Lib.hid (P2.out.under b)
  have P3_ := Lib.hid (P3.out.under b)
  have P4_ := Lib.hid (P4.out.under b)
  have O6_ := Lib.hid (O6.out.under b)
  have M6_ := Lib.hid (M6.out.under b)
  have O7_ := Lib.hid (O7.out.under b)
  have M7_ := Lib.hid (M7.out.under b)
  have O8_ := Lib.hid (O8.out.under b)
  have S8_ := Lib.hid (own_under S8.out b)
  have M8_ := Lib.hid (M8.out.under b)
  have O9_ := Lib.hid (O9.out.under b)
  have S9_ := Lib.hid (own_under S9.out b)
  have M9_ := Lib.hid (M9.out.under b)
  clear N0 BB P1 P2 P3 P4 O6 M6 O7 M7 O8 S8 M8 O9 S9 M9
  have N0 := N0_
  have BB := BB_
  have P1 := P1_
  have P2 := P2_
  have P3 := P3_
  have P4 := P4_
  have O6 := O6_
  have M6 := M6_
  have O7 := O7_
  have M7 := M7_
  have O8 := O8_
  have S8 := S8_
  have M8 := M8_
  have O9 := O9_
  have S9 := S9_
  have M9 := M9_
  clear N0_ BB_ P1_ P2_ P3_ P4_ O6_ M6_ O7_ M7_ O8_ S8_ M8_ O9_ S9_ M9_
  clear b x0 x1 y0 y1
  obtain ⟨x0, x1⟩ := cells2 P3.out
  obtain ⟨y0, y1⟩ := cells2 P4.out
  obtain ⟨z0, z1, z2, z3, z4, z5⟩ := cellsW6 M6.out
  obtain ⟨v0, v1, v2, v3, v4, v5⟩ := cellsW6 M7.out
  clear O6 O7
  go_wp2_with fail
  refine Calls.mono (refSame_any A8 _ c8 B8 _ d8 st A9 _ c9 B9 _ d9 st _ (O8.out.rd F4.out) (O9.out.rd F4.out)) ?_
  rintro e y ⟨rfl, b⟩
  rw [decide_eq_true rfl]
  have N0_ := Lib.hid (N0.out.under b)
  have BB_ := Lib.hid (BB.out.trans (b.mono BB.out.size))
  have P1_ := Lib.hid (P1.out.under b)
  have P2_ := Lib.hid (P2.out.under b)
  have P3_ := Lib.hid (P3.out.under b)
  have P4_ := Lib.hid (P4.out.under b)
  have M6_ := Lib.hid (M6.out.under b)
  have M7_ := Lib.hid (M7.out.under b)
  have O8_ := Lib.hid (O8.out.under b)
  have S8_ := Lib.hid (own_under S8.out b)
  have M8_ := Lib.hid (M8.out.under b)
  have O9_ := Lib.hid (O9.out.under b)
  have S9_ := Lib.hid (own_under S9.out b)
  have M9_ := Lib.hid (M9.out.under b)
  clear N0 BB P1 P2 P3 P4 M6 M7 O8 S8 M8 O9 S9 M9
  have N0 := N0_
  have BB := BB_
  have P1 := P1_
  have P2 := P2_
  have P3 := P3_
  have P4 := P4_
  have M6 := M6_
  have M7 := M7_
  have O8 := O8_
  have S8 := S8_
  have M8 := M8_
  have O9 := O9_
  have S9 := S9_
  have M9 := M9_
  clear N0_ BB_ P1_ P2_ P3_ P4_ M6_ M7_ O8_ S8_ M8_ O9_ S9_ M9_
  clear b x0 x1 y0 y1 z0 z1 z2 z3 z4 z5 v0 v1 v2 v3 v4 v5
  obtain ⟨z0, z1, z2, z3, z4, z5⟩ := cellsW6 M8.out
  obtain ⟨v0, v1, v2, v3, v4, v5⟩ := cellsW6 M9.out
  clear O8 O9
  go_wp2_with fail
  refine Calls.mono (told_any x8 x9 _ ⟨RdSn.of_own S8.out, by have := (RdSn.of_own S8.out).len; have := HY8.out; omega⟩ ⟨RdSn.of_own S9.out, by have := (RdSn.of_own S9.out).len; have := HY9.out; omega⟩) ?_
  rintro e y ⟨rfl, b⟩
  rw [decide_eq_true (HX8.out.trans HX9.out.symm)]
  have N0_ := Lib.hid (N0.out.under b)
  have BB_ := Lib.hid (BB.out.trans (b.mono BB.out.size))
  have P1_ := Lib.hid (P1.out.under b)
  have P2_ := Lib.hid (P2.out.under b)
  have P3_ := Lib.hid (P3.out.under b)
  have P4_ := Lib.hid (P4.out.under b)
  have M6_ := Lib.hid (M6.out.under b)
  have M7_ := Lib.hid (M7.out.under b)
  have S8_ := Lib.hid (own_under S8.out b)
  have M8_ := Lib.hid (M8.out.under b)
  have S9_ := Lib.hid (own_under S9.out b)
  have M9_ := Lib.hid (M9.out.under b)
  clear N0 BB P1 P2 P3 P4 M6 M7 S8 M8 S9 M9
  have N0 := N0_
  have BB := BB_
  have P1 := P1_
  have P2 := P2_
  have P3 := P3_
  have P4 := P4_
  have M6 := M6_
  have M7 := M7_
  have S8 := S8_
  have M8 := M8_
  have S9 := S9_
  have M9 := M9_
  clear N0_ BB_ P1_ P2_ P3_ P4_ M6_ M7_ S8_ M8_ S9_ M9_
  clear b z0 z1 z2 z3 z4 z5 v0 v1 v2 v3 v4 v5
  obtain ⟨x0, x1⟩ := cells2 N0.out
  clear S8 S9 M6 M7 M8 M9 P3 P4
  clear HX8 HX9 HY8 HY9 F3 F4 E5 E6 E9 E10 HQA HLEN
  go_wp2_with fail
  refine Calls.mono (twice_any A n c A' n' c' s z tells _ (R0.out.up BB.out)) ?_
  rintro e y ⟨A10, c10, B10, d10, rfl, o_, b⟩
  rw [E7.out] at o_ ⊢
  rw [E8.out]
  have N0_ := Lib.hid (N0.out.under b)
  have BB_ := Lib.hid (BB.out.trans (b.mono BB.out.size))
  have P1_ := Lib.hid (P1.out.under b)
  have P2_ := Lib.hid (P2.out.under b)
  clear N0 BB P1 P2
  have N0 := N0_
  have BB := BB_
  have P1 := P1_
  have P2 := P2_
  clear N0_ BB_ P1_ P2_
  have O10 := Lib.hid (o_.weaker (Nat.zero_le _))
  clear o_ b x0 x1
  obtain ⟨x0, x1⟩ := cells2 P1.out
  have f0 := P1.out.frozen 0
  have f1 := P1.out.frozen 1
  go_upto_region 16 with fail
  refine wp_at (fun V_ hV_ => ?_)
  obtain ⟨p_, far_, bel_, own_⟩ := put_old P1.out (.slice A10 sw.ks.length c10) (.slice B10 sw.ts.length d10) hV_
  have N0_ := Lib.hid (far_ _ _ _ N0.out (by have := G1.out; have := G2.out; omega))
  have BB_ := Lib.hid (bel_ _ _ BB.out (by have := G1.out; have := G2.out; omega))
  have P1_ := Lib.hid p_
  have P2_ := Lib.hid (far_ _ _ _ P2.out (by have := G1.out; have := G2.out; omega))
  have O10_ := Lib.hid (O10.out.of own_)
  clear N0 BB P1 P2 O10
  have N0 := N0_
  have BB := BB_
  have P1 := P1_
  have P2 := P2_
  have O10 := O10_
  clear N0_ BB_ P1_ P2_ O10_
  clear hV_ p_ far_ bel_ own_ x0 x1 f0 f1
  obtain ⟨x0, x1⟩ := cells2 N0.out
  go_wp2_with fail
  refine Calls.mono (refTwice_any A n c A' n' c' s z tells _ (R0.out.up BB.out)) ?_
  rintro e y ⟨A11, c11, B11, d11, rfl, o_, b⟩
  rw [E7.out] at o_ ⊢
  rw [E8.out]
  have N0_ := Lib.hid (N0.out.under b)
  have BB_ := Lib.hid (BB.out.trans (b.mono BB.out.size))
  have P1_ := Lib.hid (P1.out.under b)
  have P2_ := Lib.hid (P2.out.under b)
  have O10_ := Lib.hid (O10.out.under b)
  clear N0 BB P1 P2 O10
  have N0 := N0_
  have BB := BB_
  have P1 := P1_
  have P2 := P2_
  have O10 := O10_
  clear N0_ BB_ P1_ P2_ O10_
  have O11 := Lib.hid (o_.weaker (Nat.zero_le _))
  clear o_ b x0 x1
  obtain ⟨x0, x1⟩ := cells2 P2.out
  have f0 := P2.out.frozen 0
  have f1 := P2.out.frozen 1
  go_upto_region 17 with fail
  refine wp_at (fun V_ hV_ => ?_)
  obtain ⟨p_, far_, bel_, own_⟩ := put_old P2.out (.slice A11 sw.ks.length c11) (.slice B11 sw.ts.length d11) hV_
  have N0_ := Lib.hid (far_ _ _ _ N0.out (by have := G1.out; have := G2.out; omega))
  have BB_ := Lib.hid (bel_ _ _ BB.out (by have := G1.out; have := G2.out; omega))
  have P1_ := Lib.hid (far_ _ _ _ P1.out (by have := G1.out; have := G2.out; omega))
  have P2_ := Lib.hid p_
  have O10_ := Lib.hid (O10.out.of own_)
  have O11_ := Lib.hid (O11.out.of own_)
  clear N0 BB P1 P2 O10 O11
  have N0 := N0_
  have BB := BB_
  have P1 := P1_
  have P2 := P2_
  have O10 := O10_
  have O11 := O11_
  clear N0_ BB_ P1_ P2_ O10_ O11_
  clear hV_ p_ far_ bel_ own_ x0 x1 f0 f1
  obtain ⟨x0, x1⟩ := cells2 P1.out
  obtain ⟨y0, y1⟩ := cells2 P2.out
  go_wp2_with fail
  refine Calls.mono (refSame_any A10 _ c10 B10 _ d10 sw A11 _ c11 B11 _ d11 sw _ (O10.out.rd F5.out) (O11.out.rd F5.out)) ?_
  rintro e y ⟨rfl, b⟩
  rw [decide_eq_true rfl]
  have N0_ := Lib.hid (N0.out.under b)
  have BB_ := Lib.hid (BB.out.trans (b.mono BB.out.size))
  have P1_ := Lib.hid (P1.out.under b)
  have P2_ := Lib.hid (P2.out.under b)
  have O10_ := Lib.hid (O10.out.under b)
  have O11_ := Lib.hid (O11.out.under b)
  clear N0 BB P1 P2 O10 O11
  have N0 := N0_
  have BB := BB_
  have P1 := P1_
  have P2 := P2_
  have O10 := O10_
  have O11 := O11_
  clear N0_ BB_ P1_ P2_ O10_ O11_
  clear b x0 x1 y0 y1
  go_wp2_with fail
  refine Calls.mono (wakesN_any _) ?_
  rintro e y2 ⟨rfl, b⟩
  have N0_ := Lib.hid (N0.out.under b)
  have BB_ := Lib.hid (BB.out.trans (b.mono BB.out.size))
  have P1_ := Lib.hid (P1.out.under b)
  have P2_ := Lib.hid (P2.out.under b)
  have O10_ := Lib.hid (O10.out.under b)
  have O11_ := Lib.hid (O11.out.under b)
  clear N0 BB P1 P2 O10 O11
  have N0 := N0_
  have BB := BB_
  have P1 := P1_
  have P2 := P2_
  have O10 := O10_
  have O11 := O11_
  clear N0_ BB_ P1_ P2_ O10_ O11_
  clear b
  go_wp2_with fail
  go_ret
  exact ⟨rfl, BB.out⟩

theorem netTells_any (A : Option Addr) (n c : Nat) (A' : Option Addr) (n' c' : Nat) (s : Nt) (B : Option Addr) (m d : Nat) (B' : Option Addr) (m' d' : Nat) (s2 : Nt) (q : Ak) (x : TE) (z : Int) (tells : Bool) (w : World) (hr : NtIn w A n A' n' s) (hr2 : NtIn w B m B' m' s2) (hx : RdSn w w.heap.size x.A x.n x.l) :
    Calls Try.prog 3 #[.agg #[.slice A n c, .slice A' n' c'], .agg #[.slice B m d, .slice B' m' d'], .agg #[.int .u8 q.kind, .int .i64 q.call, .int .i64 q.a, .int .i64 q.b, .int .i64 q.c, .int .i64 q.d], .agg #[.int .i64 x.call, .int .u8 x.kind, .int .u8 x.code, .int .i64 x.id, .slice x.A x.n x.c, .bool x.more], .int .i64 z, .bool tells] w (TruePost w) := by
  cases hg : greatN s with
  | true => exact tells_great A n c A' n' c' s B m d B' m' d' s2 q x z tells w hr hr2 hx hg
  | false =>
    cases hg2 : greatN s2 with
    | true => exact tells_great2 A n c A' n' c' s B m d B' m' d' s2 q x z tells w hr hr2 hx hg hg2
    | false =>
      by_cases h3 : 60 < x.n
      · exact tells_long A n c A' n' c' s B m d B' m' d' s2 q x z tells w hr hr2 hx hg hg2 h3
      · exact tells_on A n c A' n' c' s B m d B' m' d' s2 q x z tells w hr hr2 hx hg hg2 (by omega)

end Go.Proofs.Ytcbbjloojngoiaa
