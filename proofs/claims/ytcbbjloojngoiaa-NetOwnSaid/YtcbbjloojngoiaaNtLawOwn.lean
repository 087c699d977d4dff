/-
  The walk of the statement NetOwn: what is answered lies in memory of its own. Conditions: those that each theorem names.
-/
import Derived.Test.YtcbbjloojngoiaaNtHarm
import Derived.Test.YtcbbjloojngoiaaNtRefOwn
import Derived.Test.YtcbbjloojngoiaaNtPost
import Derived.Test.YtcbbjloojngoiaaNtAsk
import Derived.Test.YtcbbjloojngoiaaNtTell
import Derived.Test.YtcbbjloojngoiaaNtTwice
import Derived.Deep.DeepCutAuto
namespace Go.Proofs.Ytcbbjloojngoiaa
open Go.RowKit Go.Shelf

/-- append([]Seen{}, l...). -/
theorem seen_app (y : World) (A : Option Addr) (n c : Nat) (l : List Sn) (hr : RdSn y y.heap.size A n l) (hn : n ≤ 1000) :
    ∃ A8 c8 W2, (Builtin.append_ #[28, 28] 28 #[.slice (some ⟨y.heap.size, 0, none⟩) 0 0, .slice A n c]).run Try.prog (y.alloc (.cells #[] 51)) = .ok (.slice A8 n c8) W2 ∧ W2.ownsRow y.heap.size 51 7 (.slice A8 n c8) n (flatN l) ∧ Below y.heap.size y W2 := by
  have ho0 := World.ownsRow_made (base := y.heap.size) (e := 51) (size := 7) y #[] 0 (by omega) (Nat.zero_le _) rfl
  have b3 := (Below.refl y.heap.size y).alloc (Nat.le_refl _) (.cells #[] 51)
  obtain ⟨v2, W2, hrun, ho, hg⟩ := run_appN (y.alloc (.cells #[] 51)) y.heap.size _ 0 [] ho0 y.heap.size A n c l (hr.below b3) (by omega) (by omega) (by simp)
  obtain ⟨A2, c2, rfl⟩ := own_formN ho
  rw [Nat.zero_add, List.nil_append] at ho
  rw [Nat.zero_add] at hrun
  exact ⟨A2, c2, W2, hrun, ho, b3.grown hg (by simp) (by simp [Value.ownBlock])⟩

set_option maxRecDepth 100000 in
set_option maxHeartbeats 32000000 in
theorem own_great (A : Option Addr) (n c : Nat) (A' : Option Addr) (n' c' : Nat) (s : Nt) (x : TE) (z : Int) (w : World) (hr : NtIn w A n A' n' s) (_ : RdSn w w.heap.size x.A x.n x.l) (hg : greatN s = true) :
    Calls Try.prog 6 #[.agg #[.slice A n c, .slice A' n' c'], .agg #[.int .i64 x.call, .int .u8 x.kind, .int .u8 x.code, .int .i64 x.id, .slice x.A x.n x.c, .bool x.more], .int .i64 z] w (TruePost w) := by
  have HG := Lib.hid hg
  clear hg
  obtain ⟨hb, h0, h1⟩ := two_new w 25 30 #[.slice A n c, .slice A' n' c'] #[.int .i64 x.call, .int .u8 x.kind, .int .u8 x.code, .int .i64 x.id, .slice x.A x.n x.c, .bool x.more]
  obtain ⟨V, hV⟩ : ∃ V, (w.alloc (.cells #[.slice A n c, .slice A' n' c'] 25)).alloc (.cells #[.int .i64 x.call, .int .u8 x.kind, .int .u8 x.code, .int .i64 x.id, .slice x.A x.n x.c, .bool x.more] 30) = V := ⟨_, rfl⟩
  rw [hV] at hb h0 h1
  have HV := Lib.hid hV
  have N0 := Lib.hid h0
  have N1 := Lib.hid h1
  have I0 := Lib.hid (hr.up hb)
  have BB := Lib.hid hb
  clear hV hb h0 h1
  clear hr
  go_enter Try.func6, Try.ntmps6
  go_upto_region 1 with fail
  rw [HV.out]
  clear HV
  obtain ⟨x0, x1⟩ := cells2 N0.out
  obtain ⟨z0, z1, z2, z3, z4, z5⟩ := cellsW6 N1.out
  go_wp2_with fail
  refine Calls.mono (I0.out.great c c') ?_
  rintro e y ⟨rfl, b⟩
  rw [HG.out]
  have N0_ := Lib.hid (N0.out.under b)
  have N1_ := Lib.hid (N1.out.under b)
  have I0_ := Lib.hid (I0.out.up b)
  have BB_ := Lib.hid (BB.out.trans (b.mono BB.out.size))
  clear N0 N1 I0 BB
  have N0 := N0_
  have N1 := N1_
  have I0 := I0_
  have BB := BB_
  clear N0_ N1_ I0_ BB_
  clear b x0 x1 z0 z1 z2 z3 z4 z5
  obtain ⟨x0, x1⟩ := cells2 N0.out
  obtain ⟨z0, z1, z2, z3, z4, z5⟩ := cellsW6 N1.out
  go_wp2_with fail
  refine Calls.mono (wakesN_any _) ?_
  rintro e y2 ⟨rfl, b⟩
  have N0_ := Lib.hid (N0.out.under b)
  have N1_ := Lib.hid (N1.out.under b)
  have I0_ := Lib.hid (I0.out.up b)
  have BB_ := Lib.hid (BB.out.trans (b.mono BB.out.size))
  clear N0 N1 I0 BB
  have N0 := N0_
  have N1 := N1_
  have I0 := I0_
  have BB := BB_
  clear N0_ N1_ I0_ BB_
  clear b
  go_wp2_with fail
  go_ret
  exact ⟨rfl, BB.out⟩

set_option maxRecDepth 100000 in
set_option maxHeartbeats 32000000 in
theorem own_long (A : Option Addr) (n c : Nat) (A' : Option Addr) (n' c' : Nat) (s : Nt) (x : TE) (z : Int) (w : World) (hr : NtIn w A n A' n' s) (_ : RdSn w w.heap.size x.A x.n x.l) (hg : greatN s = false) (h3 : 60 < x.n) :
    Calls Try.prog 6 #[.agg #[.slice A n c, .slice A' n' c'], .agg #[.int .i64 x.call, .int .u8 x.kind, .int .u8 x.code, .int .i64 x.id, .slice x.A x.n x.c, .bool x.more], .int .i64 z] w (TruePost w) := by
  have HG := Lib.hid hg
  have d3 : decide ((60 : Int) < (x.n : Int)) = true := by simp; omega
  clear hg h3
  obtain ⟨hb, h0, h1⟩ := two_new w 25 30 #[.slice A n c, .slice A' n' c'] #[.int .i64 x.call, .int .u8 x.kind, .int .u8 x.code, .int .i64 x.id, .slice x.A x.n x.c, .bool x.more]
  obtain ⟨V, hV⟩ : ∃ V, (w.alloc (.cells #[.slice A n c, .slice A' n' c'] 25)).alloc (.cells #[.int .i64 x.call, .int .u8 x.kind, .int .u8 x.code, .int .i64 x.id, .slice x.A x.n x.c, .bool x.more] 30) = V := ⟨_, rfl⟩
  rw [hV] at hb h0 h1
  have HV := Lib.hid hV
  have N0 := Lib.hid h0
  have N1 := Lib.hid h1
  have I0 := Lib.hid (hr.up hb)
  have BB := Lib.hid hb
  clear hV hb h0 h1
  clear hr
  go_enter Try.func6, Try.ntmps6
  go_upto_region 1 with fail
  rw [HV.out]
  clear HV
  obtain ⟨x0, x1⟩ := cells2 N0.out
  obtain ⟨z0, z1, z2, z3, z4, z5⟩ := cellsW6 N1.out
  go_wp2_with fail
  refine Calls.mono (I0.out.great c c') ?_
  rintro e y ⟨rfl, b⟩
  rw [HG.out]
  have N0_ := Lib.hid (N0.out.under b)
  have N1_ := Lib.hid (N1.out.under b)
  have I0_ := Lib.hid (I0.out.up b)
  have BB_ := Lib.hid (BB.out.trans (b.mono BB.out.size))
  clear N0 N1 I0 BB
  have N0 := N0_
  have N1 := N1_
  have I0 := I0_
  have BB := BB_
  clear N0_ N1_ I0_ BB_
  clear b x0 x1 z0 z1 z2 z3 z4 z5
  obtain ⟨x0, x1⟩ := cells2 N0.out
  obtain ⟨z0, z1, z2, z3, z4, z5⟩ := cellsW6 N1.out
  go_wp2_with fail
  refine Calls.mono (wakesN_any _) ?_
  rintro e y2 ⟨rfl, b⟩
  have N0_ := Lib.hid (N0.out.under b)
  have N1_ := Lib.hid (N1.out.under b)
  have I0_ := Lib.hid (I0.out.up b)
  have BB_ := Lib.hid (BB.out.trans (b.mono BB.out.size))
  clear N0 N1 I0 BB
  have N0 := N0_
  have N1 := N1_
  have I0 := I0_
  have BB := BB_
  clear N0_ N1_ I0_ BB_
  clear b
  go_wp2_with fail
  go_ret
  exact ⟨rfl, BB.out⟩

set_option maxRecDepth 100000 in
set_option maxHeartbeats 32000000 in
theorem own_on (A : Option Addr) (n c : Nat) (A' : Option Addr) (n' c' : Nat) (s : Nt) (x : TE) (z : Int) (w : World) (hr : NtIn w A n A' n' s) (hx : RdSn w w.heap.size x.A x.n x.l) (hg : greatN s = false) (h3 : x.n ≤ 60) :
    Calls Try.prog 6 #[.agg #[.slice A n c, .slice A' n' c'], .agg #[.int .i64 x.call, .int .u8 x.kind, .int .u8 x.code, .int .i64 x.id, .slice x.A x.n x.c, .bool x.more], .int .i64 z] w (TruePost w) := by
  have HG := Lib.hid hg
  have d3 : decide ((60 : Int) < (x.n : Int)) = false := by simp; omega
  have hrd := hr.rd hg
  have hxl := hx.len
  have hlk := hr.lk
  have hlt := hr.lt
  have R0 := Lib.hid hrd
  have T0 := Lib.hid (show TeR w x from ⟨hx, by omega⟩)
  have FS := Lib.hid hrd.few
  have XL := Lib.hid (show x.l.length ≤ 60 by omega)
  have LK := Lib.hid hlk
  have LT := Lib.hid hlt
  have F1 := Lib.hid (show (postN s x.t).few by
    obtain ⟨h1, h2, h4⟩ := greatN_no hg
    rw [postN]
    split
    · exact ⟨by omega, by omega, fun t ht => by have := h4 t ht; omega⟩
    · refine ⟨by simp only; omega, by simp; omega, fun u hu => ?_⟩
      simp only [List.mem_append, List.mem_singleton] at hu
      rcases hu with hu | rfl
      · have := h4 u hu; omega
      · simp only [TE.t]; omega)
  have F4 := Lib.hid (show (twiceN s z true).few by
    obtain ⟨h1, h2, h4⟩ := greatN_no hg
    have h0 : s.few := hrd.few
    simp only [twiceN, if_true]
    cases ht : tellT s z with
    | none => exact h0
    | some t =>
      have ht2 := h4 t (List.mem_of_getElem? ht)
      simp only [postN]
      split
      · exact h0
      · refine ⟨by simp only; omega, by simp; omega, fun u hu => ?_⟩
        simp only [List.mem_append, List.mem_singleton] at hu
        rcases hu with hu | rfl
        · have := h4 u hu; omega
        · omega)
  have F2 := Lib.hid (show (askN s z).few from
    ⟨by simp only [askN]; have := List.length_eraseIdx_le s.ks (placeN z s.ks.length); have := hrd.few.ks; omega, hrd.few.ts, hrd.few.sn⟩)
  have F3 := Lib.hid (show (tellN s z).few from
    ⟨hrd.few.ks, by simp only [tellN]; have := List.length_eraseIdx_le s.ts (placeN z s.ts.length); have := hrd.few.ts; omega, fun t ht => hrd.few.sn t (List.mem_of_mem_eraseIdx ht)⟩)
  obtain ⟨sp, hsp⟩ : ∃ sp, postN s x.t = sp := ⟨_, rfl⟩
  obtain ⟨sa, hsa⟩ : ∃ sa, askN s z = sa := ⟨_, rfl⟩
  obtain ⟨st, hst⟩ : ∃ st, tellN s z = st := ⟨_, rfl⟩
  obtain ⟨sw, hsw⟩ : ∃ sw, twiceN s z true = sw := ⟨_, rfl⟩
  rw [hsp] at F1
  rw [hsa] at F2
  rw [hst] at F3
  rw [hsw] at F4
  have E1 := Lib.hid hsp
  have E2 := Lib.hid hsa
  have E3 := Lib.hid hst
  have E4 := Lib.hid hsw
  clear hsp hsa hst hsw hxl hrd h3 hx hg hlk hlt
  obtain ⟨hb, h0, h1⟩ := two_new w 25 30 #[.slice A n c, .slice A' n' c'] #[.int .i64 x.call, .int .u8 x.kind, .int .u8 x.code, .int .i64 x.id, .slice x.A x.n x.c, .bool x.more]
  obtain ⟨V, hV⟩ : ∃ V, (w.alloc (.cells #[.slice A n c, .slice A' n' c'] 25)).alloc (.cells #[.int .i64 x.call, .int .u8 x.kind, .int .u8 x.code, .int .i64 x.id, .slice x.A x.n x.c, .bool x.more] 30) = V := ⟨_, rfl⟩
  rw [hV] at hb h0 h1
  have HV := Lib.hid hV
  have N0 := Lib.hid h0
  have N1 := Lib.hid h1
  have I0 := Lib.hid (hr.up hb)
  have BB := Lib.hid hb
  clear hV hb h0 h1
  go_enter Try.func6, Try.ntmps6
  go_upto_region 1 with fail
  rw [HV.out]
  clear HV
  obtain ⟨x0, x1⟩ := cells2 N0.out
  obtain ⟨z0, z1, z2, z3, z4, z5⟩ := cellsW6 N1.out
  go_wp2_with fail
  refine Calls.mono (I0.out.great c c') ?_
  rintro e y ⟨rfl, b⟩
  rw [HG.out]
  have N0_ := Lib.hid (N0.out.under b)
  have N1_ := Lib.hid (N1.out.under b)
  have I0_ := Lib.hid (I0.out.up b)
  have BB_ := Lib.hid (BB.out.trans (b.mono BB.out.size))
  clear N0 N1 I0 BB
  have N0 := N0_
  have N1 := N1_
  have I0 := I0_
  have BB := BB_
  clear N0_ N1_ I0_ BB_
  clear b x0 x1 z0 z1 z2 z3 z4 z5
  obtain ⟨x0, x1⟩ := cells2 N0.out
  obtain ⟨z0, z1, z2, z3, z4, z5⟩ := cellsW6 N1.out
  clear hr
  clear I0
  go_upto_region 3 with fail
  clear HG x0 x1 z0 z1 z2 z3 z4 z5 d3
  obtain ⟨x0, x1⟩ := cells2 N0.out
  go_wp2_with fail
  refine Calls.mono (refOwn_any A n c A' n' c' s _ (R0.out.up BB.out)) ?_
  rintro e y ⟨A1, c1, B1, d1, rfl, o_, b⟩
  have N0_ := Lib.hid (N0.out.under b)
  have N1_ := Lib.hid (N1.out.under b)
  have BB_ := Lib.hid (BB.out.trans (b.mono BB.out.size))
  clear N0 N1 BB
  have N0 := N0_
  have N1 := N1_
  have BB := BB_
  clear N0_ N1_ BB_
  have O1 := Lib.hid (o_.weaker (Nat.zero_le _))
  clear o_ b x0 x1
  go_upto_region 4 with fail
  refine wp_at (fun V1 hV_ => ?_)
  obtain ⟨b, n_⟩ : Below y.heap.size y V1 ∧ Whole V1 y.heap.size 25 #[.slice A1 s.ks.length c1, .slice B1 s.ts.length d1] := by rw [← hV_]; exact ⟨(Below.refl _ _).alloc (Nat.le_refl _) _, Whole.new _ _ _⟩
  obtain ⟨g1, hg_⟩ : ∃ g, y.heap.size = g := ⟨_, rfl⟩
  have N0_ := Lib.hid (N0.out.under b)
  have N1_ := Lib.hid (N1.out.under b)
  have BB_ := Lib.hid (BB.out.trans (b.mono BB.out.size))
  have O1_ := Lib.hid (O1.out.under b)
  clear N0 N1 BB O1
  have N0 := N0_
  have N1 := N1_
  have BB := BB_
  have O1 := O1_
  clear N0_ N1_ BB_ O1_
  rw [hg_] at n_
  rw [hg_]
  have P1 := Lib.hid (n_)
  clear hV_ b n_ hg_
  obtain ⟨A8, c8, Vb, hrun, ho8, b⟩ := seen_app V1 x.A x.n x.c x.l ((T0.out.up BB.out).rd) (by have := (T0.out).few; omega)
  have HRun := Lib.hid hrun
  have S8 := Lib.hid (RdSn.of_own ho8)
  obtain ⟨z0, z1, z2, z3, z4, z5⟩ := cellsW6 (N1.out.alloc (.cells #[] 51))
  clear hrun ho8
  go_upto_region 5 with (at_builtin; refine wpList_app (by rfl) _ _ _ rfl _ _ _ _ rfl rfl HRun.out ?_; clear HRun)
  clear z0 z1 z2 z3 z4 z5
  have N0_ := Lib.hid (N0.out.under b)
  have N1_ := Lib.hid (N1.out.under b)
  have BB_ := Lib.hid (BB.out.trans (b.mono BB.out.size))
  have O1_ := Lib.hid (O1.out.under b)
  have P1_ := Lib.hid (P1.out.under b)
  clear N0 N1 BB O1 P1
  have N0 := N0_
  have N1 := N1_
  have BB := BB_
  have O1 := O1_
  have P1 := P1_
  clear N0_ N1_ BB_ O1_ P1_
  clear b
  have RB := Lib.hid (R0.out.up BB.out)
  have WB := Lib.hid (O1.out.rd FS.out)
  have TB := Lib.hid (T0.out.up BB.out)
  have BV := Lib.hid (Below.refl Vb.heap.size Vb)
  have BW := BB
  clear R0 T0 BB
  clear O1
  obtain ⟨x0, x1⟩ := cells2 (N0.out.under BV.out)
  obtain ⟨z0, z1, z2, z3, z4, z5⟩ := cellsW6 (N1.out.under BV.out)
  go_wp2_with fail
  refine Calls.mono (post_any A n c A' n' c' s x _ (RB.out.up BV.out) (TB.out.up BV.out)) ?_
  rintro e y ⟨A9, c9, B9, d9, rfl, o_, b⟩
  rw [E1.out] at o_ ⊢
  have SZ := Lib.hid BV.out.size
  have BV_ := Lib.hid (BV.out.trans (b.mono BV.out.size))
  clear BV
  have BV := BV_
  clear BV_
  have O9 := Lib.hid (o_.weaker SZ.out)
  clear o_ b x0 x1 SZ z0 z1 z2 z3 z4 z5
  go_upto_region 6 with fail
  refine wp_at (fun V_ hV_ => ?_)
  obtain ⟨b, n_⟩ : Below y.heap.size y V_ ∧ Whole V_ y.heap.size 25 #[.slice A9 sp.ks.length c9, .slice B9 sp.ts.length d9] := by rw [← hV_]; exact ⟨(Below.refl _ _).alloc (Nat.le_refl _) _, Whole.new _ _ _⟩
  obtain ⟨g9, hg_⟩ : ∃ g, y.heap.size = g := ⟨_, rfl⟩
  have BV_ := Lib.hid (BV.out.trans (b.mono BV.out.size))
  have O9_ := Lib.hid (O9.out.under b)
  clear BV O9
  have BV := BV_
  have O9 := O9_
  clear BV_ O9_
  rw [hg_] at n_
  rw [hg_]
  have Q9 := Lib.hid (n_)
  clear hV_ b n_ hg_
  obtain ⟨x0, x1⟩ := cells2 (N0.out.under BV.out)
  go_wp2_with fail
  refine Calls.mono (ask_any A n c A' n' c' s z _ (RB.out.up BV.out)) ?_
  rintro e y ⟨A11, c11, B11, d11, q, rfl, hq_, o_, b⟩
  clear hq_
  rw [E2.out] at o_ ⊢
  have SZ := Lib.hid BV.out.size
  have BV_ := Lib.hid (BV.out.trans (b.mono BV.out.size))
  have O9_ := Lib.hid (O9.out.under b)
  have Q9_ := Lib.hid (Q9.out.under b)
  clear BV O9 Q9
  have BV := BV_
  have O9 := O9_
  have Q9 := Q9_
  clear BV_ O9_ Q9_
  have O11 := Lib.hid (o_.weaker SZ.out)
  clear o_ b x0 x1 SZ
  go_upto_region 7 with fail
  refine wp_at (fun V_ hV_ => ?_)
  obtain ⟨b, n_, _⟩ := two_new y 25 27 #[.slice A11 sa.ks.length c11, .slice B11 sa.ts.length d11] #[.int .u8 q.kind, .int .i64 q.call, .int .i64 q.a, .int .i64 q.b, .int .i64 q.c, .int .i64 q.d]
  rw [hV_] at b n_
  obtain ⟨g11, hg_⟩ : ∃ g, y.heap.size = g := ⟨_, rfl⟩
  have BV_ := Lib.hid (BV.out.trans (b.mono BV.out.size))
  have O9_ := Lib.hid (O9.out.under b)
  have Q9_ := Lib.hid (Q9.out.under b)
  have O11_ := Lib.hid (O11.out.under b)
  clear BV O9 Q9 O11
  have BV := BV_
  have O9 := O9_
  have Q9 := Q9_
  have O11 := O11_
  clear BV_ O9_ Q9_ O11_
  rw [hg_] at n_
  rw [hg_]
  have Q11 := Lib.hid (n_)
  clear hV_ b n_ hg_
  obtain ⟨x0, x1⟩ := cells2 (N0.out.under BV.out)
  go_wp2_with fail
  refine Calls.mono (tell_any A n c A' n' c' s z _ (RB.out.up BV.out)) ?_
  rintro e y ⟨A14, c14, B14, d14, u, rfl, hq_, ox_, o_, b⟩
  clear hq_ ox_
  rw [E3.out] at o_ ⊢
  have SZ := Lib.hid BV.out.size
  have BV_ := Lib.hid (BV.out.trans (b.mono BV.out.size))
  have O9_ := Lib.hid (O9.out.under b)
  have Q9_ := Lib.hid (Q9.out.under b)
  have O11_ := Lib.hid (O11.out.under b)
  have Q11_ := Lib.hid (Q11.out.under b)
  clear BV O9 Q9 O11 Q11
  have BV := BV_
  have O9 := O9_
  have Q9 := Q9_
  have O11 := O11_
  have Q11 := Q11_
  clear BV_ O9_ Q9_ O11_ Q11_
  have O14 := Lib.hid (o_.weaker SZ.out)
  clear o_ b x0 x1 SZ
  go_upto_region 8 with fail
  refine wp_at (fun V_ hV_ => ?_)
  obtain ⟨b, n_, _⟩ := two_new y 25 30 #[.slice A14 st.ks.length c14, .slice B14 st.ts.length d14] #[.int .i64 u.call, .int .u8 u.kind, .int .u8 u.code, .int .i64 u.id, .slice u.A u.n u.c, .bool u.more]
  rw [hV_] at b n_
  obtain ⟨g14, hg_⟩ : ∃ g, y.heap.size = g := ⟨_, rfl⟩
  have BV_ := Lib.hid (BV.out.trans (b.mono BV.out.size))
  have O9_ := Lib.hid (O9.out.under b)
  have Q9_ := Lib.hid (Q9.out.under b)
  have O11_ := Lib.hid (O11.out.under b)
  have Q11_ := Lib.hid (Q11.out.under b)
  have O14_ := Lib.hid (O14.out.under b)
  clear BV O9 Q9 O11 Q11 O14
  have BV := BV_
  have O9 := O9_
  have Q9 := Q9_
  have O11 := O11_
  have Q11 := Q11_
  have O14 := O14_
  clear BV_ O9_ Q9_ O11_ Q11_ O14_
  rw [hg_] at n_
  rw [hg_]
  have Q14 := Lib.hid (n_)
  clear hV_ b n_ hg_
  obtain ⟨x0, x1⟩ := cells2 (N0.out.under BV.out)
  go_wp2_with fail
  refine Calls.mono (twice_any A n c A' n' c' s z true _ (RB.out.up BV.out)) ?_
  rintro e y ⟨A17, c17, B17, d17, rfl, o_, b⟩
  rw [E4.out] at o_ ⊢
  have SZ := Lib.hid BV.out.size
  have BV_ := Lib.hid (BV.out.trans (b.mono BV.out.size))
  have O9_ := Lib.hid (O9.out.under b)
  have Q9_ := Lib.hid (Q9.out.under b)
  have O11_ := Lib.hid (O11.out.under b)
  have Q11_ := Lib.hid (Q11.out.under b)
  have O14_ := Lib.hid (O14.out.under b)
  have Q14_ := Lib.hid (Q14.out.under b)
  clear BV O9 Q9 O11 Q11 O14 Q14
  have BV := BV_
  have O9 := O9_
  have Q9 := Q9_
  have O11 := O11_
  have Q11 := Q11_
  have O14 := O14_
  have Q14 := Q14_
  clear BV_ O9_ Q9_ O11_ Q11_ O14_ Q14_
  have O17 := Lib.hid (o_.weaker SZ.out)
  clear o_ b x0 x1 SZ
  go_upto_region 9 with fail
  refine wp_at (fun V_ hV_ => ?_)
  obtain ⟨b, n_⟩ : Below y.heap.size y V_ ∧ Whole V_ y.heap.size 25 #[.slice A17 sw.ks.length c17, .slice B17 sw.ts.length d17] := by rw [← hV_]; exact ⟨(Below.refl _ _).alloc (Nat.le_refl _) _, Whole.new _ _ _⟩
  obtain ⟨g17, hg_⟩ : ∃ g, y.heap.size = g := ⟨_, rfl⟩
  have BV_ := Lib.hid (BV.out.trans (b.mono BV.out.size))
  have O9_ := Lib.hid (O9.out.under b)
  have Q9_ := Lib.hid (Q9.out.under b)
  have O11_ := Lib.hid (O11.out.under b)
  have Q11_ := Lib.hid (Q11.out.under b)
  have O14_ := Lib.hid (O14.out.under b)
  have Q14_ := Lib.hid (Q14.out.under b)
  have O17_ := Lib.hid (O17.out.under b)
  clear BV O9 Q9 O11 Q11 O14 Q14 O17
  have BV := BV_
  have O9 := O9_
  have Q9 := Q9_
  have O11 := O11_
  have Q11 := Q11_
  have O14 := O14_
  have Q14 := Q14_
  have O17 := O17_
  clear BV_ O9_ Q9_ O11_ Q11_ O14_ Q14_ O17_
  rw [hg_] at n_
  rw [hg_]
  have Q17 := Lib.hid (n_)
  clear hV_ b n_ hg_
  clear E1 E2 E3 E4
  obtain ⟨VD, hVD⟩ : ∃ VD, V_.drew = VD := ⟨_, rfl⟩
  have BD : Hid (Below V_.heap.size V_ VD) := Lib.hid (by rw [← hVD]; exact (Below.refl V_.heap.size V_).drew)
  have BV_ := Lib.hid (BV.out.trans (BD.out.mono BV.out.size))
  have O9_ := Lib.hid (O9.out.under BD.out)
  have Q9_ := Lib.hid (Q9.out.under BD.out)
  have O11_ := Lib.hid (O11.out.under BD.out)
  have Q11_ := Lib.hid (Q11.out.under BD.out)
  have O14_ := Lib.hid (O14.out.under BD.out)
  have Q14_ := Lib.hid (Q14.out.under BD.out)
  have O17_ := Lib.hid (O17.out.under BD.out)
  have Q17_ := Lib.hid (Q17.out.under BD.out)
  clear BV O9 Q9 O11 Q11 O14 Q14 O17 Q17
  have BV := BV_
  have O9 := O9_
  have Q9 := Q9_
  have O11 := O11_
  have Q11 := Q11_
  have O14 := O14_
  have Q14 := Q14_
  have O17 := O17_
  have Q17 := Q17_
  clear BV_ O9_ Q9_ O11_ Q11_ O14_ Q14_ O17_ Q17_
  clear BD
  have HT0 : Hid ((fun (V' : World) => (V'.cell? ⟨w.heap.size, 0, none⟩ = some (.slice A n c) ∧ V'.cell? ⟨w.heap.size, 1, none⟩ = some (.slice A' n' c')) ∧ (V'.cell? ⟨g9, 0, none⟩ = some (.slice A9 sp.ks.length c9) ∧ V'.cell? ⟨g9, 1, none⟩ = some (.slice B9 sp.ts.length d9)) ∧ (V'.cell? ⟨g11, 0, none⟩ = some (.slice A11 sa.ks.length c11) ∧ V'.cell? ⟨g11, 1, none⟩ = some (.slice B11 sa.ts.length d11)) ∧ (V'.cell? ⟨g14, 0, none⟩ = some (.slice A14 st.ks.length c14) ∧ V'.cell? ⟨g14, 1, none⟩ = some (.slice B14 st.ts.length d14)) ∧ (V'.cell? ⟨g17, 0, none⟩ = some (.slice A17 sw.ks.length c17) ∧ V'.cell? ⟨g17, 1, none⟩ = some (.slice B17 sw.ts.length d17))) VD) := Lib.hid ⟨cells2 (N0.out.under BV.out), cells2 Q9.out, cells2 Q11.out, cells2 Q14.out, cells2 Q17.out⟩
  refine wp_region_T (ls := []) (T := (fun (V' : World) => (V'.cell? ⟨w.heap.size, 0, none⟩ = some (.slice A n c) ∧ V'.cell? ⟨w.heap.size, 1, none⟩ = some (.slice A' n' c')) ∧ (V'.cell? ⟨g9, 0, none⟩ = some (.slice A9 sp.ks.length c9) ∧ V'.cell? ⟨g9, 1, none⟩ = some (.slice B9 sp.ts.length d9)) ∧ (V'.cell? ⟨g11, 0, none⟩ = some (.slice A11 sa.ks.length c11) ∧ V'.cell? ⟨g11, 1, none⟩ = some (.slice B11 sa.ts.length d11)) ∧ (V'.cell? ⟨g14, 0, none⟩ = some (.slice A14 st.ks.length c14) ∧ V'.cell? ⟨g14, 1, none⟩ = some (.slice B14 st.ts.length d14)) ∧ (V'.cell? ⟨g17, 0, none⟩ = some (.slice A17 sw.ks.length c17) ∧ V'.cell? ⟨g17, 1, none⟩ = some (.slice B17 sw.ts.length d17)))) (by kernel_rfl) ?_
  rw [hVD]
  clear hVD
  refine takeT (i := 0) (v := ?_) rfl (by kernel_rfl) (by kernel_rfl) (by kernel_rfl) (by kernel_rfl) (fun _ _ _ h => h) (by rfl) ?_ HT0.out ?_
  rotate_left
  · intro V' hV; obtain ⟨⟨v0, v1⟩, ⟨v4, v5⟩, ⟨v6, v7⟩, ⟨v8, v9⟩, v10, v11⟩ := hV; go_simp <;> with_reducible rfl
  simp only [Act.put, List.setIfInBounds_toArray, List.set_cons_zero, List.set_cons_succ]
  refine takeT (i := 2) (v := ?_) rfl (by kernel_rfl) (by kernel_rfl) (by kernel_rfl) (by kernel_rfl) (fun _ _ _ h => h) (by rfl) ?_ HT0.out ?_
  rotate_left
  · intro V' hV; obtain ⟨⟨v0, v1⟩, ⟨v4, v5⟩, ⟨v6, v7⟩, ⟨v8, v9⟩, v10, v11⟩ := hV; go_simp <;> with_reducible rfl
  simp only [Act.put, List.setIfInBounds_toArray, List.set_cons_zero, List.set_cons_succ]
  refine takeT (i := 3) (v := ?_) rfl (by kernel_rfl) (by kernel_rfl) (by kernel_rfl) (by kernel_rfl) (fun _ _ _ h => h) (by rfl) ?_ HT0.out ?_
  rotate_left
  · intro V' hV; obtain ⟨⟨v0, v1⟩, ⟨v4, v5⟩, ⟨v6, v7⟩, ⟨v8, v9⟩, v10, v11⟩ := hV; go_simp <;> with_reducible rfl
  simp only [Act.put, List.setIfInBounds_toArray, List.set_cons_zero, List.set_cons_succ]
  refine takeT (i := 4) (v := ?_) rfl (by kernel_rfl) (by kernel_rfl) (by kernel_rfl) (by kernel_rfl) (fun _ _ _ h => h) (by rfl) ?_ HT0.out ?_
  rotate_left
  · intro V' hV; obtain ⟨⟨v0, v1⟩, ⟨v4, v5⟩, ⟨v6, v7⟩, ⟨v8, v9⟩, v10, v11⟩ := hV; go_simp <;> with_reducible rfl
  simp only [Act.put, List.setIfInBounds_toArray, List.set_cons_zero, List.set_cons_succ]
  refine takeT (i := 5) (v := ?_) rfl (by kernel_rfl) (by kernel_rfl) (by kernel_rfl) (by kernel_rfl) (fun _ _ _ h => h) (by rfl) ?_ HT0.out ?_
  rotate_left
  · intro V' hV; obtain ⟨⟨v0, v1⟩, ⟨v4, v5⟩, ⟨v6, v7⟩, ⟨v8, v9⟩, v10, v11⟩ := hV; go_simp <;> with_reducible rfl
  simp only [Act.put, List.setIfInBounds_toArray, List.set_cons_zero, List.set_cons_succ]
  refine takeP (i := 8) (v := ?_) rfl (by kernel_rfl) (by kernel_rfl) (by kernel_rfl) (by kernel_rfl) (fun _ _ _ h => h) (by rfl) ?_ (fun _ => HT0.out) ?_
  rotate_left
  · intro V'; go_simp <;> with_reducible rfl
  simp only [Act.put, List.setIfInBounds_toArray, List.set_cons_zero, List.set_cons_succ]
  refine oneT (i := 1) rfl (by kernel_rfl) (by rfl) (fun K hK => ?_)
  go_simp
  go_at_call 15
  refine (ownN_any A n c A' n' c' s _ (RB.out.up BV.out)).mono ?_
  rintro e y ⟨A5, c5, B5, d5, rfl, o_, b⟩
  have SZ := Lib.hid BV.out.size
  have BV_ := Lib.hid (BV.out.trans (b.mono BV.out.size))
  have O9_ := Lib.hid (O9.out.under b)
  have Q9_ := Lib.hid (Q9.out.under b)
  have O11_ := Lib.hid (O11.out.under b)
  have Q11_ := Lib.hid (Q11.out.under b)
  have O14_ := Lib.hid (O14.out.under b)
  have Q14_ := Lib.hid (Q14.out.under b)
  have O17_ := Lib.hid (O17.out.under b)
  have Q17_ := Lib.hid (Q17.out.under b)
  clear BV O9 Q9 O11 Q11 O14 Q14 O17 Q17
  have BV := BV_
  have O9 := O9_
  have Q9 := Q9_
  have O11 := O11_
  have Q11 := Q11_
  have O14 := O14_
  have Q14 := Q14_
  have O17 := O17_
  have Q17 := Q17_
  clear BV_ O9_ Q9_ O11_ Q11_ O14_ Q14_ O17_ Q17_
  have O5 := Lib.hid (o_.weaker SZ.out)
  clear o_ b SZ
  have HT1 : Hid ((fun (V' : World) => (V'.cell? ⟨w.heap.size, 0, none⟩ = some (.slice A n c) ∧ V'.cell? ⟨w.heap.size, 1, none⟩ = some (.slice A' n' c')) ∧ (V'.cell? ⟨g9, 0, none⟩ = some (.slice A9 sp.ks.length c9) ∧ V'.cell? ⟨g9, 1, none⟩ = some (.slice B9 sp.ts.length d9)) ∧ (V'.cell? ⟨g11, 0, none⟩ = some (.slice A11 sa.ks.length c11) ∧ V'.cell? ⟨g11, 1, none⟩ = some (.slice B11 sa.ts.length d11)) ∧ (V'.cell? ⟨g14, 0, none⟩ = some (.slice A14 st.ks.length c14) ∧ V'.cell? ⟨g14, 1, none⟩ = some (.slice B14 st.ts.length d14)) ∧ (V'.cell? ⟨g17, 0, none⟩ = some (.slice A17 sw.ks.length c17) ∧ V'.cell? ⟨g17, 1, none⟩ = some (.slice B17 sw.ts.length d17))) y) := Lib.hid ⟨cells2 (N0.out.under BV.out), cells2 Q9.out, cells2 Q11.out, cells2 Q14.out, cells2 Q17.out⟩
  refine hK.out _ _ (fun _ => HT1.out) ?_
  clear hK K HT0
  refine oneT (i := 6) rfl (by kernel_rfl) (by rfl) (fun K hK => ?_)
  go_simp
  have b := (Below.refl y.heap.size y).alloc (Nat.le_refl _) (.cells #[.slice A5 s.ks.length c5, .slice B5 s.ts.length d5, .slice A9 sp.ks.length c9, .slice B9 sp.ts.length d9, .slice A11 sa.ks.length c11, .slice B11 sa.ts.length d11, .slice A14 st.ks.length c14, .slice B14 st.ts.length d14, .slice A17 sw.ks.length c17, .slice B17 sw.ts.length d17] 25)
  have hl := Whole.new y 25 #[.slice A5 s.ks.length c5, .slice B5 s.ts.length d5, .slice A9 sp.ks.length c9, .slice B9 sp.ts.length d9, .slice A11 sa.ks.length c11, .slice B11 sa.ts.length d11, .slice A14 st.ks.length c14, .slice B14 st.ts.length d14, .slice A17 sw.ks.length c17, .slice B17 sw.ts.length d17]
  obtain ⟨V0, hV0⟩ : ∃ V0, y.alloc (.cells #[.slice A5 s.ks.length c5, .slice B5 s.ts.length d5, .slice A9 sp.ks.length c9, .slice B9 sp.ts.length d9, .slice A11 sa.ks.length c11, .slice B11 sa.ts.length d11, .slice A14 st.ks.length c14, .slice B14 st.ts.length d14, .slice A17 sw.ks.length c17, .slice B17 sw.ts.length d17] 25) = V0 := ⟨_, rfl⟩
  rw [hV0] at b hl
  rw [hV0]
  have SB : Hid (Vb.heap.size ≤ y.heap.size) := Lib.hid BV.out.size
  obtain ⟨L, hL⟩ : ∃ L, y.heap.size = L := ⟨_, rfl⟩
  have BV_ := Lib.hid (BV.out.trans (b.mono BV.out.size))
  have O9_ := Lib.hid (O9.out.under b)
  have Q9_ := Lib.hid (Q9.out.under b)
  have O11_ := Lib.hid (O11.out.under b)
  have Q11_ := Lib.hid (Q11.out.under b)
  have O14_ := Lib.hid (O14.out.under b)
  have Q14_ := Lib.hid (Q14.out.under b)
  have O17_ := Lib.hid (O17.out.under b)
  have Q17_ := Lib.hid (Q17.out.under b)
  have O5_ := Lib.hid (O5.out.under b)
  clear BV O9 Q9 O11 Q11 O14 Q14 O17 Q17 O5
  have BV := BV_
  have O9 := O9_
  have Q9 := Q9_
  have O11 := O11_
  have Q11 := Q11_
  have O14 := O14_
  have Q14 := Q14_
  have O17 := O17_
  have Q17 := Q17_
  have O5 := O5_
  clear BV_ O9_ Q9_ O11_ Q11_ O14_ Q14_ O17_ Q17_ O5_
  rw [hL] at hl SB
  rw [hL]
  have HL := Lib.hid hl
  have HT2 : Hid ((fun (V' : World) => (V'.cell? ⟨w.heap.size, 0, none⟩ = some (.slice A n c) ∧ V'.cell? ⟨w.heap.size, 1, none⟩ = some (.slice A' n' c')) ∧ (V'.cell? ⟨g9, 0, none⟩ = some (.slice A9 sp.ks.length c9) ∧ V'.cell? ⟨g9, 1, none⟩ = some (.slice B9 sp.ts.length d9)) ∧ (V'.cell? ⟨g11, 0, none⟩ = some (.slice A11 sa.ks.length c11) ∧ V'.cell? ⟨g11, 1, none⟩ = some (.slice B11 sa.ts.length d11)) ∧ (V'.cell? ⟨g14, 0, none⟩ = some (.slice A14 st.ks.length c14) ∧ V'.cell? ⟨g14, 1, none⟩ = some (.slice B14 st.ts.length d14)) ∧ (V'.cell? ⟨g17, 0, none⟩ = some (.slice A17 sw.ks.length c17) ∧ V'.cell? ⟨g17, 1, none⟩ = some (.slice B17 sw.ts.length d17))) V0) := Lib.hid ⟨cells2 (N0.out.under BV.out), cells2 Q9.out, cells2 Q11.out, cells2 Q14.out, cells2 Q17.out⟩
  clear hl b hV0 hL HT1
  refine hK.out _ _ (fun _ => HT2.out) ?_
  clear hK K
  refine takeP (i := 7) (v := ?_) rfl (by kernel_rfl) (by kernel_rfl) (by kernel_rfl) (by kernel_rfl) (fun _ _ _ h => h) (by rfl) ?_ (fun _ => HT2.out) ?_
  rotate_left
  · intro V'; go_simp <;> with_reducible rfl
  simp only [Act.put, List.setIfInBounds_toArray, List.set_cons_zero, List.set_cons_succ]
  refine doneT (by kernel_rfl) ?_ _
  clear HT2
  obtain ⟨cs, hcs⟩ : ∃ cs : Array Value, #[.slice A5 s.ks.length c5, .slice B5 s.ts.length d5, .slice A9 sp.ks.length c9, .slice B9 sp.ts.length d9, .slice A11 sa.ks.length c11, .slice B11 sa.ts.length d11, .slice A14 st.ks.length c14, .slice B14 st.ts.length d14, .slice A17 sw.ks.length c17, .slice B17 sw.ts.length d17] = cs := ⟨_, rfl⟩
  have EL : Hid (∀ k, k < 5 → ∃ An n1 c1 At n2 c2, cs[k * 2]? = some (.slice An n1 c1) ∧ cs[k * 2 + 1]? = some (.slice At n2 c2) ∧ NtS V0 Vb.heap.size An n1 At n2) := Lib.hid (by
    intro k hk
    rw [← hcs]
    match k, hk with
    | 0, _ => exact ⟨_, _, _, _, _, _, rfl, rfl, NtS.of O5.out (Nat.le_refl _) FS.out⟩
    | 1, _ => exact ⟨_, _, _, _, _, _, rfl, rfl, NtS.of O9.out (Nat.le_refl _) F1.out⟩
    | 2, _ => exact ⟨_, _, _, _, _, _, rfl, rfl, NtS.of O11.out (Nat.le_refl _) F2.out⟩
    | 3, _ => exact ⟨_, _, _, _, _, _, rfl, rfl, NtS.of O14.out (Nat.le_refl _) F3.out⟩
    | 4, _ => exact ⟨_, _, _, _, _, _, rfl, rfl, NtS.of O17.out (Nat.le_refl _) F4.out⟩)
  rw [hcs] at HL
  clear hcs O5 O9 O11 O14 O17 Q9 Q11 Q14 Q17 F1 F2 F3 F4
  have H00 : Hid (Harm Vb.heap.size V0 V0) := Lib.hid (Harm.refl BV.out.size)
  go_wp2_with fail
  go_loopw [73] (fun i wr => ∃ k : Nat, i = .int .i64 (k : Int) ∧ k ≤ 5 ∧ Harm Vb.heap.size V0 wr) (fun i _ => 5 - (intOf i).toNat)
  case atStart => exact ⟨0, rfl, Nat.zero_le _, H00.out⟩
  case round =>
    clear H00
    obtain ⟨k, rfl, hk5, hh⟩ := hrel
    by_cases hlt : k < 5
    ·
      obtain ⟨An, n1, c1_, At, n2, c2_, e1, e2, hS⟩ := EL.out k hlt
      have x0 := ((hh.net SB.out HL.out).cell (k * 2)).trans e1
      have x1 := ((hh.net SB.out HL.out).cell (k * 2 + 1)).trans e2
      have hki : (k : Int) < 5 := by omega
      have HK5 := Lib.hid hlt
      have H := Lib.hid hh
      have HS := Lib.hid hS
      clear e1 e2 hS hh hlt hk5
      go_upto_region 12 with fail
      refine wp_at (fun V1 hV_ => ?_)
      obtain ⟨b, n_⟩ : Below wr.heap.size wr V1 ∧ Whole V1 wr.heap.size 25 #[.slice An n1 c1_, .slice At n2 c2_] := by rw [← hV_]; exact ⟨(Below.refl _ _).alloc (Nat.le_refl _) _, Whole.new _ _ _⟩
      obtain ⟨q, hq⟩ : ∃ q, wr.heap.size = q := ⟨_, rfl⟩
      have QL : Hid (Vb.heap.size ≤ q) := Lib.hid (by rw [← hq]; exact H.out.le')
      have H1 := Lib.hid (H.out.under b)
      rw [hq] at n_
      rw [hq]
      have Q := Lib.hid n_
      have S1 := Lib.hid (HS.out.harm H1.out)
      have N100 := Lib.hid HS.out.kn
      have N200 := Lib.hid HS.out.tn
      have H11 := Lib.hid (Harm.refl H1.out.le')
      clear hV_ b n_ hq x0 x1 hki H HS
      go_wp2_with fail
      go_loopw [21] (fun i wr => ∃ j : Nat, i = .int .i64 (j : Int) ∧ j ≤ n1 ∧ Harm Vb.heap.size V1 wr) (fun i _ => n1 - (intOf i).toNat)
      case atStart => exact ⟨0, rfl, Nat.zero_le _, H11.out⟩
      case round =>
        clear H11
        obtain ⟨j, rfl, hj, hh⟩ := hrel
        by_cases hlt : j < n1
        ·
          obtain ⟨x0, x1⟩ := cells2 (hh.net QL.out Q.out)
          obtain ⟨g, cur, v, rfl, hg, h3, hc, hf⟩ := (S1.out.ks.harm hh).at hlt (d := 1) (by omega)
          have hji : (j : Int) < (n1 : Int) := by omega
          have hj100 : (j : Int) ≤ 100 := by have := N100.out; omega
          have HJ := Lib.hid hlt
          have HH := Lib.hid (hh.set hg h3 (by decide) (fun e => absurd e (by decide)) (.int .i64 (-7)) (o := j * 6 + 1))
          clear hh hg h3 hlt hj
          go_wp2_with fail
          go_roundw
          case rel => exact ⟨j + 1, by go_num, by have := HJ.out; omega, HH.out⟩
          case measure => have := HJ.out; simp [intOf]; omega
        ·
          obtain ⟨x0, x1⟩ := cells2 (hh.net QL.out Q.out)
          have HH := Lib.hid hh
          clear hh hj
          go_wp2_with fail
          clear x0 x1
          go_loopw [22] (fun i wr => ∃ j : Nat, i = .int .i64 (j : Int) ∧ j ≤ n2 ∧ Harm Vb.heap.size V1 wr) (fun i _ => n2 - (intOf i).toNat)
          case atStart => exact ⟨0, rfl, Nat.zero_le _, HH.out⟩
          case round =>
            clear HH
            obtain ⟨m, rfl, hm, hh⟩ := hrel
            by_cases hmt : m < n2
            ·
              obtain ⟨x0, x1⟩ := cells2 (hh.net QL.out Q.out)
              obtain ⟨g, cur, v, rfl, hg, h3, hc, hf⟩ := (S1.out.ts.rs.harm hh).at hmt (d := 0) (by omega)
              rw [Nat.add_zero] at hc hf
              have hmi : (m : Int) < (n2 : Int) := by omega
              have hm100 : (m : Int) ≤ 100 := by have := N200.out; omega
              have HJ := Lib.hid hmt
              have HH := Lib.hid (hh.set hg h3 (by decide) (fun _ => by omega) (.int .i64 (-7)) (o := m * 6))
              clear hh hg h3 hmt hm
              go_upto_region 20 with fail
              refine wp_at (fun V3 hV_ => ?_)
              rw [hV_] at HH
              clear hV_ x0 x1 hc hf
              obtain ⟨g', cur', A3, n3, c3, e3, hg3, h3, hc3, hr3, hn3⟩ := (S1.out.ts.harm HH.out).seen HJ.out
              have hgg : g = g' := by injection e3 with e3; injection e3
              clear e3
              subst hgg
              have HG3 := Lib.hid hg3
              have H3 := Lib.hid h3
              have HC3 := Lib.hid hc3
              have HR3 := Lib.hid hr3
              have HN3 := Lib.hid hn3
              have Q3 := Lib.hid (HH.out.net QL.out Q.out)
              have H33 := Lib.hid (Harm.refl HH.out.le')
              clear hg3 h3 hc3 hr3 hn3
              go_wp2_with fail
              go_loopw [23] (fun i wr => ∃ p : Nat, i = .int .i64 (p : Int) ∧ p ≤ n3 ∧ Harm Vb.heap.size V3 wr) (fun i _ => n3 - (intOf i).toNat)
              case atStart => exact ⟨0, rfl, Nat.zero_le _, H33.out⟩
              case round =>
                clear H33
                obtain ⟨p, rfl, hp, hh⟩ := hrel
                obtain ⟨x0, x1⟩ := cells2 (hh.net QL.out Q3.out)
                have y4 := (hh.tell HG3.out H3.out (o := m * 6 + 4) (by omega)).trans HC3.out
                by_cases hpt : p < n3
                ·
                  obtain ⟨g5, cur5, v5, rfl, hg5, h5, hc5, hf5⟩ := (HR3.out.harm hh).at hpt (d := 0) (by omega)
                  rw [Nat.add_zero] at hc5 hf5
                  have hpi : (p : Int) < (n3 : Int) := by omega
                  have hp100 : (p : Int) ≤ 100 := by have := HN3.out; omega
                  have HP := Lib.hid hpt
                  have H5 := Lib.hid (hh.set hg5 h5 (by decide) (fun e => absurd e (by decide)) (.int .i64 (-7)) (o := p * 7))
                  clear hh hg5 h5 hpt hp
                  go_wp2_with fail
                  go_roundw
                  case rel => exact ⟨p + 1, by go_num, by have := HP.out; omega, H5.out⟩
                  case measure => have := HP.out; simp [intOf]; omega
                ·
                  have H5 := Lib.hid hh
                  clear hh hp
                  go_wp2_with fail
                  go_roundw
                  case rel => exact ⟨m + 1, by go_num, by have := HJ.out; omega, HH.out.trans H5.out⟩
                  case measure => have := HJ.out; simp [intOf]; omega
            ·
              obtain ⟨x0, x1⟩ := cells2 (hh.net QL.out Q.out)
              have HH := Lib.hid hh
              have hk100 : (k : Int) ≤ 5 := by have := HK5.out; omega
              clear hh hm
              go_wp2_with fail
              go_roundw
              case rel => exact ⟨k + 1, by go_num, by have := HK5.out; omega, H1.out.trans HH.out⟩
              case measure => have := HK5.out; simp [intOf]; omega
    ·
      have BE := Lib.hid (BV.out.trans (hh.be.mono (Nat.le_refl _)))
      obtain ⟨x0, x1⟩ := cells2 (N0.out.under BE.out)
      obtain ⟨y0, y1⟩ := cells2 (P1.out.under BE.out)
      clear hh hk5
      go_wp2_with fail
      refine Calls.mono (refSame_any A n c A' n' c' s A1 _ c1 B1 _ d1 s _ (RB.out.up BE.out) (WB.out.up BE.out)) ?_
      rintro e y3 ⟨rfl, b⟩
      rw [decide_eq_true rfl]
      have B3 := Lib.hid (BE.out.trans (b.mono BE.out.size))
      clear b x0 x1 y0 y1 BE
      obtain ⟨z0, z1, z2, z3, z4, z5⟩ := cellsW6 (N1.out.under B3.out)
      go_wp2_with fail
      refine Calls.mono (sameSn_any x.A A8 x.n x.c x.n c8 x.l x.l _ _ _ ((TB.out.up B3.out).rd) ((S8.out.below B3.out).more B3.out.size) (by have := TB.out.few; omega)) ?_
      rintro e y4 ⟨rfl, kd, rfl⟩
      rw [decide_eq_true rfl]
      have B4 := Lib.hid (drewN_below B3.out kd)
      clear z0 z1 z2 z3 z4 z5 B3
      go_wp2_with fail
      refine Calls.mono (wakesN_any _) ?_
      rintro e y5 ⟨rfl, b⟩
      have B5 := Lib.hid (B4.out.trans (b.mono B4.out.size))
      clear b
      go_wp2_with fail
      go_ret
      exact ⟨rfl, BW.out.trans (B5.out.mono BW.out.size)⟩

theorem netOwn_any (A : Option Addr) (n c : Nat) (A' : Option Addr) (n' c' : Nat) (s : Nt) (x : TE) (z : Int) (w : World) (hr : NtIn w A n A' n' s) (hx : RdSn w w.heap.size x.A x.n x.l) :
    Calls Try.prog 6 #[.agg #[.slice A n c, .slice A' n' c'], .agg #[.int .i64 x.call, .int .u8 x.kind, .int .u8 x.code, .int .i64 x.id, .slice x.A x.n x.c, .bool x.more], .int .i64 z] w (TruePost w) := by
  cases hg : greatN s with
  | true => exact own_great A n c A' n' c' s x z w hr hx hg
  | false =>
    by_cases h3 : 60 < x.n
    · exact own_long A n c A' n' c' s x z w hr hx hg h3
    · exact own_on A n c A' n' c' s x z w hr hx hg (by omega)

end Go.Proofs.Ytcbbjloojngoiaa
