/-
  The walk of the statement NetOnce: what is taken, until nothing is left, is what was there, each once. Conditions: those that each theorem names.
-/
import Derived.Test.YtcbbjloojngoiaaNtOnceKit
import Derived.Deep.DeepCutAuto
namespace Go.Proofs.Ytcbbjloojngoiaa
open Go.RowKit Go.Shelf

set_option maxRecDepth 100000 in
set_option maxHeartbeats 32000000 in
theorem once_great (A : Option Addr) (n c : Nat) (A' : Option Addr) (n' c' : Nat) (s : Nt) (Al : Option Addr) (nl cl : Nat) (l : List Int) (w : World) (hr : NtIn w A n A' n' s) (_ : Rd w w.heap.size Al nl (iv l)) (hg : greatN s = true) :
    Calls Try.prog 4 #[.agg #[.slice A n c, .slice A' n' c'], .slice Al nl cl] w (TruePost w) := by
  have HG := Lib.hid hg
  clear hg
  have hb := (Below.refl w.heap.size w).alloc (Nat.le_refl _) (.cells #[.slice A n c, .slice A' n' c'] 25)
  have hw := Whole.new w 25 #[.slice A n c, .slice A' n' c']
  obtain ⟨V, hV⟩ : ∃ V, w.alloc (.cells #[.slice A n c, .slice A' n' c'] 25) = V := ⟨_, rfl⟩
  rw [hV] at hb hw
  have HV := Lib.hid hV
  have N0 := Lib.hid hw
  have I0 := Lib.hid (hr.up hb)
  have BB := Lib.hid hb
  clear hV hb hw
  go_enter Try.func4, Try.ntmps4
  go_upto_region 1 with fail
  rw [HV.out]
  clear HV
  obtain ⟨x0, x1⟩ := cells2 N0.out
  go_wp2_with fail
  refine Calls.mono (I0.out.great c c') ?_
  rintro e y ⟨rfl, b⟩
  rw [HG.out]
  have N0_ := Lib.hid (N0.out.under b)
  have I0_ := Lib.hid (I0.out.up b)
  have BB_ := Lib.hid (BB.out.trans (b.mono BB.out.size))
  clear N0 I0 BB
  have N0 := N0_
  have I0 := I0_
  have BB := BB_
  clear N0_ I0_ BB_
  clear b x0 x1
  clear hr
  go_wp2_with fail
  refine Calls.mono (wakesN_any _) ?_
  rintro e y2 ⟨rfl, b⟩
  have N0_ := Lib.hid (N0.out.under b)
  have I0_ := Lib.hid (I0.out.up b)
  have BB_ := Lib.hid (BB.out.trans (b.mono BB.out.size))
  clear N0 I0 BB
  have N0 := N0_
  have I0 := I0_
  have BB := BB_
  clear N0_ I0_ BB_
  clear b
  go_wp2_with fail
  go_ret
  exact ⟨rfl, BB.out⟩

set_option maxRecDepth 100000 in
set_option maxHeartbeats 32000000 in
theorem once_on (A : Option Addr) (n c : Nat) (A' : Option Addr) (n' c' : Nat) (s : Nt) (Al : Option Addr) (nl cl : Nat) (l : List Int) (w : World) (hr : NtIn w A n A' n' s) (hl : Rd w w.heap.size Al nl (iv l)) (hg : greatN s = false) :
    Calls Try.prog 4 #[.agg #[.slice A n c, .slice A' n' c'], .slice Al nl cl] w (TruePost w) := by
  have HG := Lib.hid hg
  have hlk := hr.lk
  have hlt := hr.lt
  have hrd := hr.rd hg
  have hn70 := (greatN_no hg).1
  have hn71 := (greatN_no hg).2.1
  rw [hlk] at hn70
  rw [hlt] at hn71
  have R0 := Lib.hid hrd
  have RL := Lib.hid hl
  have LK := Lib.hid hlk
  have LT := Lib.hid hlt
  have FS := Lib.hid hrd.few
  have N70 := Lib.hid hn70
  have N71 := Lib.hid hn71
  clear hg hlk hlt hrd hl hn70 hn71
  have hb := (Below.refl w.heap.size w).alloc (Nat.le_refl _) (.cells #[.slice A n c, .slice A' n' c'] 25)
  have hw := Whole.new w 25 #[.slice A n c, .slice A' n' c']
  obtain ⟨V, hV⟩ : ∃ V, w.alloc (.cells #[.slice A n c, .slice A' n' c'] 25) = V := ⟨_, rfl⟩
  rw [hV] at hb hw
  have HV := Lib.hid hV
  have N0 := Lib.hid hw
  have I0 := Lib.hid (hr.up hb)
  have BB := Lib.hid hb
  clear hV hb hw
  go_enter Try.func4, Try.ntmps4
  go_upto_region 1 with fail
  rw [HV.out]
  clear HV
  obtain ⟨x0, x1⟩ := cells2 N0.out
  go_wp2_with fail
  refine Calls.mono (I0.out.great c c') ?_
  rintro e y ⟨rfl, b⟩
  rw [HG.out]
  have N0_ := Lib.hid (N0.out.under b)
  have I0_ := Lib.hid (I0.out.up b)
  have BB_ := Lib.hid (BB.out.trans (b.mono BB.out.size))
  clear N0 I0 BB
  have N0 := N0_
  have I0 := I0_
  have BB := BB_
  clear N0_ I0_ BB_
  clear b x0 x1
  clear hr
  clear I0
  go_upto_region 3 with fail
  clear HG
  obtain ⟨x0, x1⟩ := cells2 N0.out
  go_wp2_with fail
  refine Calls.mono (ownN_any A n c A' n' c' s _ (R0.out.up BB.out)) ?_
  rintro e y ⟨A1, c1, B1, d1, rfl, o_, b⟩
  rw [LK.out, LT.out]
  have LTg := Lib.hid (N0.out.lt)
  have SZ := Lib.hid b.size
  have SB := Lib.hid BB.out.size
  have N0_ := Lib.hid (N0.out.under b)
  have BB_ := Lib.hid (BB.out.trans (b.mono BB.out.size))
  clear N0 BB
  have N0 := N0_
  have BB := BB_
  clear N0_ BB_
  have O1 := Lib.hid (o_.weaker (base := w.heap.size) SB.out)
  clear o_ b x0 x1
  go_upto_region 4 with fail
  refine wp_at (fun V_ hV_ => ?_)
  obtain ⟨b, n_⟩ : Below y.heap.size y V_ ∧ Whole V_ y.heap.size 25 #[.slice A1 n c1, .slice B1 n' d1] := by rw [← hV_]; exact ⟨(Below.refl _ _).alloc (Nat.le_refl _) _, Whole.new _ _ _⟩
  obtain ⟨g, hg_⟩ : ∃ g, y.heap.size = g := ⟨_, rfl⟩
  have GL : Hid (w.heap.size < g) := Lib.hid (by rw [← hg_]; have := LTg.out; have := SZ.out; omega)
  have N0_ := Lib.hid (N0.out.under b)
  have BB_ := Lib.hid (BB.out.trans (b.mono BB.out.size))
  have O1_ := Lib.hid (O1.out.under b)
  clear N0 BB O1
  have N0 := N0_
  have BB := BB_
  have O1 := O1_
  clear N0_ BB_ O1_
  rw [hg_] at n_
  rw [hg_]
  have P := Lib.hid (n_)
  clear hV_ b n_ hg_ LTg SZ SB
  obtain ⟨M, hM⟩ : ∃ M, n + n' = M := ⟨_, rfl⟩
  have HM := Lib.hid hM
  go_wp2_with fail
  go_loopw [6, 7, 8] (fun a t i wr => ∃ (j : Nat) (o : Nt) (ks : List Ak) (ts : List Tl) (A6 : Option Addr) (c6 : Nat) (A7 : Option Addr) (c7 : Nat) (Ao : Option Addr) (co : Nat) (Bo : Option Addr) (eo : Nat), i = .int .i64 (j : Int) ∧ j ≤ M ∧ a = .slice A6 ks.length c6 ∧ t = .slice A7 ts.length c7 ∧ OnS w A n c A' n' c' s g j o ks ts A6 c6 A7 c7 Ao co Bo eo wr) (fun _ _ i _ => M - (intOf i).toNat)
  case atStart => exact ⟨0, s, [], [], none, 0, none, 0, A1, c1, B1, d1, rfl, Nat.zero_le _, rfl, rfl, N0.out, by rw [LK.out, LT.out]; exact P.out, GL.out, O1.out, AsksAt.nil_ _ _, TellsAt.nil_ _ _, once_start s, FS.out, by simp, BB.out⟩
  case round =>
    clear N0 P O1 BB
    obtain ⟨j, o, ks, ts, A6, c6, A7, c7, Ao, co, Bo, eo, rfl, hj, e6, e7, hS⟩ := hrel
    have S := Lib.hid hS
    clear hS
    by_cases hlt : j < M
    ·
      subst e6
      subst e7
      have hj140 : (j : Int) ≤ 140 := by have := N70.out; have := N71.out; omega
      have hjM : (j : Int) < (M : Int) := by omega
      have hwM : IntKind.i64.wrap ((n : Int) + (n' : Int)) = (M : Int) := by rw [wrapI_small (by omega) (by have := N70.out; have := N71.out; omega)]; omega
      have HJ := Lib.hid hlt
      clear hlt hj
      obtain ⟨x0, x1⟩ := cells2 S.out.n0
      by_cases hjl : j < nl
      ·
        obtain ⟨bl, off, rfl, hbl, hcl⟩ := RL.out.2 (by omega)
        obtain ⟨z, hz⟩ : ∃ z, l[j]? = some z := ⟨_, List.getElem?_eq_getElem (by have := RL.out.1; simp only [iv, List.length_map] at this; omega)⟩
        have hzc : wr.cell? ⟨bl, off + j, none⟩ = some (.int .i64 z) := by rw [S.out.be.cell hbl, hcl j hjl]; simp [iv, hz]
        have hjl2 : (j : Int) < (nl : Int) := by omega
        clear hcl hbl hz hjl
        go_upto_region 12 with fail
        clear hzc hjl2
        clear x0 x1 hjM hwM
        obtain ⟨x0, x1⟩ := cells2 S.out.pg
        go_wp2_with fail
        refine Calls.mono (ask_any Ao o.ks.length co Bo o.ts.length eo o z _ (S.out.oo.rd S.out.fo)) ?_
        rintro e y ⟨A1_, c1_, B1_, d1_, q, rfl, hq, o_, b⟩
        have UB := Lib.hid b
        have C := Lib.hid (S.out.bare.under b)
        have O := Lib.hid o_
        clear o_ b x0 x1
        obtain ⟨o1, ho1⟩ : ∃ o1, askN o z = o1 := ⟨_, rfl⟩
        have hts : o1.ts = o.ts := by rw [← ho1]; rfl
        rw [ho1] at O
        rw [ho1]
        have HO1 := Lib.hid ho1
        have HTS := Lib.hid hts
        have F1 := Lib.hid (show o1.few by rw [← ho1]; exact fewK S.out.fo _)
        clear ho1 hts
        by_cases hk : 0 < o.ks.length
        ·
          obtain ⟨qa, hqa⟩ := askA_some hk z
          rw [hqa, Option.getD_some] at hq
          subst hq
          have dk : decide ((0 : Int) < (o.ks.length : Int)) = true := by rw [decide_eq_true_iff]; omega
          rw [decide_eq_true hk]
          have HQ := Lib.hid hqa
          clear hqa
          go_upto_region 13 with fail
          refine wp_at (fun V_ hV_ => ?_)
          obtain ⟨b, n_, m_⟩ := two_new y 25 27 #[.slice A1_ o1.ks.length c1_, .slice B1_ o1.ts.length d1_] #[.int .u8 q.kind, .int .i64 q.call, .int .i64 q.a, .int .i64 q.b, .int .i64 q.c, .int .i64 q.d]
          rw [hV_] at b n_ m_
          have C2 := Lib.hid (C.out.under b)
          have O2 := Lib.hid (O.out.under b)
          have PN := Lib.hid n_
          have PM := Lib.hid m_
          have PL := Lib.hid (show wr.heap.size ≤ y.heap.size from UB.out.size)
          clear C O hV_ n_ m_ b
          obtain ⟨x0, x1, x2, x3, x4, x5⟩ := cellsW6 PM.out
          obtain ⟨A8, c8, W8, hrun, ho8, hb8, hw8, ht8, hk8⟩ := once_asks V_ w.heap.size _ _ C2.out.ka q (by have := S.out.on.kl; have := N70.out; have := LK.out; omega) C2.out.be.size V_.heap.size rfl wr.heap.size (own_lt S.out.ka)
          have HRun := Lib.hid hrun
          have PN2 := Lib.hid (hw8 _ _ _ PN.out (by decide))
          have C3 : Hid (OnC w A n c A' n' c' g o (ks ++ [q]) ts A8 c8 A7 c7 Ao co Bo eo W8) := Lib.hid ⟨hw8 _ _ _ C2.out.n0 (by decide), hw8 _ _ _ C2.out.pg (by decide), by rw [List.length_append]; exact ho8, ht8 _ _ _ C2.out.ta, C2.out.be.trans hb8⟩
          have O3 : Hid (NtO wr.heap.size W8 A1_ c1_ B1_ d1_ o1) := Lib.hid ⟨hk8 _ _ _ (Nat.le_refl _) O2.out.ks, ht8 _ _ _ O2.out.ts⟩
          have HK3 := Lib.hid (show (ks ++ [q]).length = ks.length + 1 by simp)
          clear hrun ho8 hb8 hw8 ht8 hk8 C2 O2 PN PM
          go_upto_region 15 with (at_builtin; refine wpList_app (by rfl) _ _ _ rfl _ _ _ _ rfl rfl HRun.out ?_; clear HRun)
          clear x0 x1 x2 x3 x4 x5
          obtain ⟨x0, x1⟩ := cells2 PN2.out
          go_wp2_with fail
          refine Calls.mono (tell_any A1_ o1.ks.length c1_ B1_ o1.ts.length d1_ o1 z _ (O3.out.rd F1.out)) ?_
          rintro e y3 ⟨A2_, c2_, B2_, d2_, x, rfl, hx, ox, o_, b⟩
          have UB3 := Lib.hid b
          have C := Lib.hid (C3.out.under b)
          have O := Lib.hid o_
          have X := Lib.hid ox
          have TB := Lib.hid (own_lt C3.out.ta.choose_spec.1)
          clear o_ ox b x0 x1
          obtain ⟨o2, ho2⟩ : ∃ o2, tellN o1 z = o2 := ⟨_, rfl⟩
          rw [ho2] at O
          rw [ho2]
          have HO2 := Lib.hid ho2
          have F2 := Lib.hid (show o2.few by rw [← ho2]; exact fewT F1.out _)
          clear ho2
          rw [HTS.out]
          by_cases ht : 0 < o.ts.length
          ·
            obtain ⟨xa, hxa⟩ := tellT_some ht z
            have hxb : tellT o1 z = some xa := by rw [tellT, HTS.out]; exact hxa
            rw [hxb, Option.getD_some] at hx
            have dt : decide ((0 : Int) < (o.ts.length : Int)) = true := by rw [decide_eq_true_iff]; omega
            rw [decide_eq_true ht]
            have HX := Lib.hid hxa
            have HXT := Lib.hid hx
            clear hxa hxb hx
            go_upto_region 16 with fail
            refine wp_at (fun V3 hV_ => ?_)
            obtain ⟨b, n_, m_⟩ := two_new y3 25 30 #[.slice A2_ o2.ks.length c2_, .slice B2_ o2.ts.length d2_] #[.int .i64 x.call, .int .u8 x.kind, .int .u8 x.code, .int .i64 x.id, .slice x.A x.n x.c, .bool x.more]
            rw [hV_] at b n_ m_
            have C4 := Lib.hid (C.out.under b)
            have O4 := Lib.hid (O.out.under b)
            have X4 := Lib.hid (own_under X.out b)
            have QN := Lib.hid n_
            have QM := Lib.hid m_
            clear C O X hV_ n_ m_ b
            obtain ⟨x0, x1, x2, x3, x4, x5⟩ := cellsW6 QM.out
            have hwl : w.heap.size ≤ W8.heap.size := C3.out.be.size
            obtain ⟨A9, c9, W9, hrun, ho9, hb9, hw9, hk9, ht9⟩ := once_tells V3 w.heap.size _ _ C4.out.ta x (own_weaker X4.out hwl) (by have := S.out.on.tl; have := N71.out; have := LT.out; omega) C4.out.be.size V3.heap.size rfl W8.heap.size TB.out
            have HRun := Lib.hid hrun
            have QN2 := Lib.hid (hw9 _ _ _ QN.out (by decide))
            have C5 : Hid (OnC w A n c A' n' c' g o (ks ++ [q]) (ts ++ [x.t]) A8 c8 A9 c9 Ao co Bo eo W9) := Lib.hid ⟨hw9 _ _ _ C4.out.n0 (by decide), hw9 _ _ _ C4.out.pg (by decide), hk9 _ _ _ C4.out.ka, by rw [List.length_append]; exact ho9, C4.out.be.trans hb9⟩
            have O5 : Hid (NtO W8.heap.size W9 A2_ c2_ B2_ d2_ o2) := Lib.hid ⟨hk9 _ _ _ O4.out.ks, ht9 _ _ _ (Nat.le_refl _) O4.out.ts⟩
            clear hrun ho9 hb9 hw9 ht9 hk9 C4 O4 QN QM hwl
            go_upto_region 18 with (at_builtin; refine wpList_app (by rfl) _ _ _ rfl _ _ _ _ rfl rfl HRun.out ?_; clear HRun)
            clear x0 x1 x2 x3 x4 x5
            obtain ⟨x0, x1⟩ := cells2 C5.out.pg
            obtain ⟨y0, y1⟩ := cells2 QN2.out
            have f0 := C5.out.pg.frozen 0
            have f1 := C5.out.pg.frozen 1
            go_wp2_with fail
            go_roundw
            case rel =>
              obtain ⟨p_, far_, bel_, own_⟩ := put_old C5.out.pg (.slice A2_ o2.ks.length c2_) (.slice B2_ o2.ts.length d2_) rfl
              have hon := S.out.on.step z
              rw [HO1.out] at hon
              have hto : tellT o1 z = tellT o z := by simp only [tellT, HTS.out]
              rw [HO2.out, HQ.out, HX.out] at hon
              refine ⟨j + 1, o2, ks ++ [q], ts ++ [x.t], A8, c8, A9, c9, A2_, c2_, B2_, d2_, by go_num, by have := HJ.out; omega, by rw [List.length_append]; rfl, by rw [List.length_append]; rfl, far_ _ _ _ C5.out.n0 (by have := S.out.gl; omega), p_, S.out.gl, (O5.out.of own_).weaker C3.out.be.size, own_ _ _ _ _ _ _ C5.out.ka (by decide), ?_, ?_, F2.out, ?_, bel_ _ _ C5.out.be (by have := S.out.gl; omega)⟩
              · obtain ⟨es, v1, v2, v3⟩ := C5.out.ta
                exact ⟨es, own_ _ _ _ _ _ _ v1 (by decide), v2, fun y hy => own_ _ _ _ _ _ _ (v3 y hy) (by decide)⟩
              · rw [HXT.out]; simpa using hon
              · intro t ht_
                rcases List.mem_append.1 ht_ with h | h
                · exact S.out.ft t h
                · simp only [List.mem_singleton] at h
                  subst h
                  rw [HXT.out]
                  exact S.out.fo.sn _ (List.mem_of_getElem? HX.out)
            case measure => have := HJ.out; simp [intOf]; omega
          ·
            have hxa : tellT o z = none := tellT_nil (List.eq_nil_of_length_eq_zero (by omega)) _
            have dt : decide ((0 : Int) < (o.ts.length : Int)) = false := by rw [decide_eq_false_iff_not]; omega
            rw [decide_eq_false ht]
            have HX := Lib.hid hxa
            clear hxa hx
            go_upto_region 16 with fail
            refine wp_at (fun V3 hV_ => ?_)
            obtain ⟨b, n_, m_⟩ := two_new y3 25 30 #[.slice A2_ o2.ks.length c2_, .slice B2_ o2.ts.length d2_] #[.int .i64 x.call, .int .u8 x.kind, .int .u8 x.code, .int .i64 x.id, .slice x.A x.n x.c, .bool x.more]
            rw [hV_] at b n_ m_
            have C4 := Lib.hid (C.out.under b)
            have O4 := Lib.hid (O.out.under b)
            have X4 := Lib.hid (own_under X.out b)
            have QN := Lib.hid n_
            have QM := Lib.hid m_
            clear C O X hV_ n_ m_ b
            go_upto_region 18 with fail
            have C5 := C4
            have O5 := O4
            have QN2 := QN
            clear C4 O4 QN QM X4
            obtain ⟨x0, x1⟩ := cells2 C5.out.pg
            obtain ⟨y0, y1⟩ := cells2 QN2.out
            have f0 := C5.out.pg.frozen 0
            have f1 := C5.out.pg.frozen 1
            go_wp2_with fail
            go_roundw
            case rel =>
              obtain ⟨p_, far_, bel_, own_⟩ := put_old C5.out.pg (.slice A2_ o2.ks.length c2_) (.slice B2_ o2.ts.length d2_) rfl
              have hon := S.out.on.step z
              rw [HO1.out] at hon
              have hto : tellT o1 z = tellT o z := by simp only [tellT, HTS.out]
              rw [HO2.out, HQ.out, HX.out] at hon
              refine ⟨j + 1, o2, ks ++ [q], ts, A8, c8, A7, c7, A2_, c2_, B2_, d2_, by go_num, by have := HJ.out; omega, by rw [List.length_append]; rfl, rfl, far_ _ _ _ C5.out.n0 (by have := S.out.gl; omega), p_, S.out.gl, (O5.out.of own_).weaker C3.out.be.size, own_ _ _ _ _ _ _ C5.out.ka (by decide), ?_, ?_, F2.out, ?_, bel_ _ _ C5.out.be (by have := S.out.gl; omega)⟩
              · obtain ⟨es, v1, v2, v3⟩ := C5.out.ta
                exact ⟨es, own_ _ _ _ _ _ _ v1 (by decide), v2, fun y hy => own_ _ _ _ _ _ _ (v3 y hy) (by decide)⟩
              · simpa using hon
              · exact S.out.ft
            case measure => have := HJ.out; simp [intOf]; omega
        ·
          have hqa : askA o z = none := askA_nil (List.eq_nil_of_length_eq_zero (by omega)) _
          have dk : decide ((0 : Int) < (o.ks.length : Int)) = false := by rw [decide_eq_false_iff_not]; omega
          rw [decide_eq_false hk]
          have HQ := Lib.hid hqa
          clear hqa hq
          go_upto_region 13 with fail
          refine wp_at (fun V_ hV_ => ?_)
          obtain ⟨b, n_, m_⟩ := two_new y 25 27 #[.slice A1_ o1.ks.length c1_, .slice B1_ o1.ts.length d1_] #[.int .u8 q.kind, .int .i64 q.call, .int .i64 q.a, .int .i64 q.b, .int .i64 q.c, .int .i64 q.d]
          rw [hV_] at b n_ m_
          have C2 := Lib.hid (C.out.under b)
          have O2 := Lib.hid (O.out.under b)
          have PN := Lib.hid n_
          have PM := Lib.hid m_
          have PL := Lib.hid (show wr.heap.size ≤ y.heap.size from UB.out.size)
          clear C O hV_ n_ m_ b
          go_upto_region 15 with fail
          have C3 := C2
          have O3 := O2
          have PN2 := PN
          clear C2 O2 PN PM
          obtain ⟨x0, x1⟩ := cells2 PN2.out
          go_wp2_with fail
          refine Calls.mono (tell_any A1_ o1.ks.length c1_ B1_ o1.ts.length d1_ o1 z _ (O3.out.rd F1.out)) ?_
          rintro e y3 ⟨A2_, c2_, B2_, d2_, x, rfl, hx, ox, o_, b⟩
          have UB3 := Lib.hid b
          have C := Lib.hid (C3.out.under b)
          have O := Lib.hid o_
          have X := Lib.hid ox
          have TB := Lib.hid (own_lt C3.out.ta.choose_spec.1)
          clear o_ ox b x0 x1
          obtain ⟨o2, ho2⟩ : ∃ o2, tellN o1 z = o2 := ⟨_, rfl⟩
          rw [ho2] at O
          rw [ho2]
          have HO2 := Lib.hid ho2
          have F2 := Lib.hid (show o2.few by rw [← ho2]; exact fewT F1.out _)
          clear ho2
          rw [HTS.out]
          by_cases ht : 0 < o.ts.length
          ·
            obtain ⟨xa, hxa⟩ := tellT_some ht z
            have hxb : tellT o1 z = some xa := by rw [tellT, HTS.out]; exact hxa
            rw [hxb, Option.getD_some] at hx
            have dt : decide ((0 : Int) < (o.ts.length : Int)) = true := by rw [decide_eq_true_iff]; omega
            rw [decide_eq_true ht]
            have HX := Lib.hid hxa
            have HXT := Lib.hid hx
            clear hxa hxb hx
            go_upto_region 16 with fail
            refine wp_at (fun V3 hV_ => ?_)
            obtain ⟨b, n_, m_⟩ := two_new y3 25 30 #[.slice A2_ o2.ks.length c2_, .slice B2_ o2.ts.length d2_] #[.int .i64 x.call, .int .u8 x.kind, .int .u8 x.code, .int .i64 x.id, .slice x.A x.n x.c, .bool x.more]
            rw [hV_] at b n_ m_
            have C4 := Lib.hid (C.out.under b)
            have O4 := Lib.hid (O.out.under b)
            have X4 := Lib.hid (own_under X.out b)
            have QN := Lib.hid n_
            have QM := Lib.hid m_
            clear C O X hV_ n_ m_ b
            obtain ⟨x0, x1, x2, x3, x4, x5⟩ := cellsW6 QM.out
            have hwl : w.heap.size ≤ V_.heap.size := C3.out.be.size
            obtain ⟨A9, c9, W9, hrun, ho9, hb9, hw9, hk9, ht9⟩ := once_tells V3 w.heap.size _ _ C4.out.ta x (own_weaker X4.out hwl) (by have := S.out.on.tl; have := N71.out; have := LT.out; omega) C4.out.be.size V3.heap.size rfl V_.heap.size TB.out
            have HRun := Lib.hid hrun
            have QN2 := Lib.hid (hw9 _ _ _ QN.out (by decide))
            have C5 : Hid (OnC w A n c A' n' c' g o (ks) (ts ++ [x.t]) A6 c6 A9 c9 Ao co Bo eo W9) := Lib.hid ⟨hw9 _ _ _ C4.out.n0 (by decide), hw9 _ _ _ C4.out.pg (by decide), hk9 _ _ _ C4.out.ka, by rw [List.length_append]; exact ho9, C4.out.be.trans hb9⟩
            have O5 : Hid (NtO V_.heap.size W9 A2_ c2_ B2_ d2_ o2) := Lib.hid ⟨hk9 _ _ _ O4.out.ks, ht9 _ _ _ (Nat.le_refl _) O4.out.ts⟩
            clear hrun ho9 hb9 hw9 ht9 hk9 C4 O4 QN QM hwl
            go_upto_region 18 with (at_builtin; refine wpList_app (by rfl) _ _ _ rfl _ _ _ _ rfl rfl HRun.out ?_; clear HRun)
            clear x0 x1 x2 x3 x4 x5
            obtain ⟨x0, x1⟩ := cells2 C5.out.pg
            obtain ⟨y0, y1⟩ := cells2 QN2.out
            have f0 := C5.out.pg.frozen 0
            have f1 := C5.out.pg.frozen 1
            go_wp2_with fail
            go_roundw
            case rel =>
              obtain ⟨p_, far_, bel_, own_⟩ := put_old C5.out.pg (.slice A2_ o2.ks.length c2_) (.slice B2_ o2.ts.length d2_) rfl
              have hon := S.out.on.step z
              rw [HO1.out] at hon
              have hto : tellT o1 z = tellT o z := by simp only [tellT, HTS.out]
              rw [HO2.out, HQ.out, HX.out] at hon
              refine ⟨j + 1, o2, ks, ts ++ [x.t], A6, c6, A9, c9, A2_, c2_, B2_, d2_, by go_num, by have := HJ.out; omega, rfl, by rw [List.length_append]; rfl, far_ _ _ _ C5.out.n0 (by have := S.out.gl; omega), p_, S.out.gl, (O5.out.of own_).weaker C3.out.be.size, own_ _ _ _ _ _ _ C5.out.ka (by decide), ?_, ?_, F2.out, ?_, bel_ _ _ C5.out.be (by have := S.out.gl; omega)⟩
              · obtain ⟨es, v1, v2, v3⟩ := C5.out.ta
                exact ⟨es, own_ _ _ _ _ _ _ v1 (by decide), v2, fun y hy => own_ _ _ _ _ _ _ (v3 y hy) (by decide)⟩
              · rw [HXT.out]; simpa using hon
              · intro t ht_
                rcases List.mem_append.1 ht_ with h | h
                · exact S.out.ft t h
                · simp only [List.mem_singleton] at h
                  subst h
                  rw [HXT.out]
                  exact S.out.fo.sn _ (List.mem_of_getElem? HX.out)
            case measure => have := HJ.out; simp [intOf]; omega
          ·
            have hxa : tellT o z = none := tellT_nil (List.eq_nil_of_length_eq_zero (by omega)) _
            have dt : decide ((0 : Int) < (o.ts.length : Int)) = false := by rw [decide_eq_false_iff_not]; omega
            rw [decide_eq_false ht]
            have HX := Lib.hid hxa
            clear hxa hx
            go_upto_region 16 with fail
            refine wp_at (fun V3 hV_ => ?_)
            obtain ⟨b, n_, m_⟩ := two_new y3 25 30 #[.slice A2_ o2.ks.length c2_, .slice B2_ o2.ts.length d2_] #[.int .i64 x.call, .int .u8 x.kind, .int .u8 x.code, .int .i64 x.id, .slice x.A x.n x.c, .bool x.more]
            rw [hV_] at b n_ m_
            have C4 := Lib.hid (C.out.under b)
            have O4 := Lib.hid (O.out.under b)
            have X4 := Lib.hid (own_under X.out b)
            have QN := Lib.hid n_
            have QM := Lib.hid m_
            clear C O X hV_ n_ m_ b
            go_upto_region 18 with fail
            have C5 := C4
            have O5 := O4
            have QN2 := QN
            clear C4 O4 QN QM X4
            obtain ⟨x0, x1⟩ := cells2 C5.out.pg
            obtain ⟨y0, y1⟩ := cells2 QN2.out
            have f0 := C5.out.pg.frozen 0
            have f1 := C5.out.pg.frozen 1
            go_wp2_with fail
            go_roundw
            case rel =>
              obtain ⟨p_, far_, bel_, own_⟩ := put_old C5.out.pg (.slice A2_ o2.ks.length c2_) (.slice B2_ o2.ts.length d2_) rfl
              have hon := S.out.on.step z
              rw [HO1.out] at hon
              have hto : tellT o1 z = tellT o z := by simp only [tellT, HTS.out]
              rw [HO2.out, HQ.out, HX.out] at hon
              refine ⟨j + 1, o2, ks, ts, A6, c6, A7, c7, A2_, c2_, B2_, d2_, by go_num, by have := HJ.out; omega, rfl, rfl, far_ _ _ _ C5.out.n0 (by have := S.out.gl; omega), p_, S.out.gl, (O5.out.of own_).weaker C3.out.be.size, own_ _ _ _ _ _ _ C5.out.ka (by decide), ?_, ?_, F2.out, ?_, bel_ _ _ C5.out.be (by have := S.out.gl; omega)⟩
              · obtain ⟨es, v1, v2, v3⟩ := C5.out.ta
                exact ⟨es, own_ _ _ _ _ _ _ v1 (by decide), v2, fun y hy => own_ _ _ _ _ _ _ (v3 y hy) (by decide)⟩
              · simpa using hon
              · exact S.out.ft
            case measure => have := HJ.out; simp [intOf]; omega
      ·
        have hjl2 : decide ((j : Int) < (nl : Int)) = false := by rw [decide_eq_false_iff_not]; omega
        go_upto_region 12 with fail
        clear hjl2 hjl
        clear x0 x1 hjM hwM
        obtain ⟨x0, x1⟩ := cells2 S.out.pg
        go_wp2_with fail
        refine Calls.mono (ask_any Ao o.ks.length co Bo o.ts.length eo o (j : Int) _ (S.out.oo.rd S.out.fo)) ?_
        rintro e y ⟨A1_, c1_, B1_, d1_, q, rfl, hq, o_, b⟩
        have UB := Lib.hid b
        have C := Lib.hid (S.out.bare.under b)
        have O := Lib.hid o_
        clear o_ b x0 x1
        obtain ⟨o1, ho1⟩ : ∃ o1, askN o (j : Int) = o1 := ⟨_, rfl⟩
        have hts : o1.ts = o.ts := by rw [← ho1]; rfl
        rw [ho1] at O
        rw [ho1]
        have HO1 := Lib.hid ho1
        have HTS := Lib.hid hts
        have F1 := Lib.hid (show o1.few by rw [← ho1]; exact fewK S.out.fo _)
        clear ho1 hts
        by_cases hk : 0 < o.ks.length
        ·
          obtain ⟨qa, hqa⟩ := askA_some hk (j : Int)
          rw [hqa, Option.getD_some] at hq
          subst hq
          have dk : decide ((0 : Int) < (o.ks.length : Int)) = true := by rw [decide_eq_true_iff]; omega
          rw [decide_eq_true hk]
          have HQ := Lib.hid hqa
          clear hqa
          go_upto_region 13 with fail
          refine wp_at (fun V_ hV_ => ?_)
          obtain ⟨b, n_, m_⟩ := two_new y 25 27 #[.slice A1_ o1.ks.length c1_, .slice B1_ o1.ts.length d1_] #[.int .u8 q.kind, .int .i64 q.call, .int .i64 q.a, .int .i64 q.b, .int .i64 q.c, .int .i64 q.d]
          rw [hV_] at b n_ m_
          have C2 := Lib.hid (C.out.under b)
          have O2 := Lib.hid (O.out.under b)
          have PN := Lib.hid n_
          have PM := Lib.hid m_
          have PL := Lib.hid (show wr.heap.size ≤ y.heap.size from UB.out.size)
          clear C O hV_ n_ m_ b
          obtain ⟨x0, x1, x2, x3, x4, x5⟩ := cellsW6 PM.out
          obtain ⟨A8, c8, W8, hrun, ho8, hb8, hw8, ht8, hk8⟩ := once_asks V_ w.heap.size _ _ C2.out.ka q (by have := S.out.on.kl; have := N70.out; have := LK.out; omega) C2.out.be.size V_.heap.size rfl wr.heap.size (own_lt S.out.ka)
          have HRun := Lib.hid hrun
          have PN2 := Lib.hid (hw8 _ _ _ PN.out (by decide))
          have C3 : Hid (OnC w A n c A' n' c' g o (ks ++ [q]) ts A8 c8 A7 c7 Ao co Bo eo W8) := Lib.hid ⟨hw8 _ _ _ C2.out.n0 (by decide), hw8 _ _ _ C2.out.pg (by decide), by rw [List.length_append]; exact ho8, ht8 _ _ _ C2.out.ta, C2.out.be.trans hb8⟩
          have O3 : Hid (NtO wr.heap.size W8 A1_ c1_ B1_ d1_ o1) := Lib.hid ⟨hk8 _ _ _ (Nat.le_refl _) O2.out.ks, ht8 _ _ _ O2.out.ts⟩
          have HK3 := Lib.hid (show (ks ++ [q]).length = ks.length + 1 by simp)
          clear hrun ho8 hb8 hw8 ht8 hk8 C2 O2 PN PM
          go_upto_region 15 with (at_builtin; refine wpList_app (by rfl) _ _ _ rfl _ _ _ _ rfl rfl HRun.out ?_; clear HRun)
          clear x0 x1 x2 x3 x4 x5
          obtain ⟨x0, x1⟩ := cells2 PN2.out
          go_wp2_with fail
          refine Calls.mono (tell_any A1_ o1.ks.length c1_ B1_ o1.ts.length d1_ o1 (j : Int) _ (O3.out.rd F1.out)) ?_
          rintro e y3 ⟨A2_, c2_, B2_, d2_, x, rfl, hx, ox, o_, b⟩
          have UB3 := Lib.hid b
          have C := Lib.hid (C3.out.under b)
          have O := Lib.hid o_
          have X := Lib.hid ox
          have TB := Lib.hid (own_lt C3.out.ta.choose_spec.1)
          clear o_ ox b x0 x1
          obtain ⟨o2, ho2⟩ : ∃ o2, tellN o1 (j : Int) = o2 := ⟨_, rfl⟩
          rw [ho2] at O
          rw [ho2]
          have HO2 := Lib.hid ho2
          have F2 := Lib.hid (show o2.few by rw [← ho2]; exact fewT F1.out _)
          clear ho2
          rw [HTS.out]
          by_cases ht : 0 < o.ts.length
          ·
            obtain ⟨xa, hxa⟩ := tellT_some ht (j : Int)
            have hxb : tellT o1 (j : Int) = some xa := by rw [tellT, HTS.out]; exact hxa
            rw [hxb, Option.getD_some] at hx
            have dt : decide ((0 : Int) < (o.ts.length : Int)) = true := by rw [decide_eq_true_iff]; omega
            rw [decide_eq_true ht]
            have HX := Lib.hid hxa
            have HXT := Lib.hid hx
            clear hxa hxb hx
            go_upto_region 16 with fail
            refine wp_at (fun V3 hV_ => ?_)
            obtain ⟨b, n_, m_⟩ := two_new y3 25 30 #[.slice A2_ o2.ks.length c2_, .slice B2_ o2.ts.length d2_] #[.int .i64 x.call, .int .u8 x.kind, .int .u8 x.code, .int .i64 x.id, .slice x.A x.n x.c, .bool x.more]
            rw [hV_] at b n_ m_
            have C4 := Lib.hid (C.out.under b)
            have O4 := Lib.hid (O.out.under b)
            have X4 := Lib.hid (own_under X.out b)
            have QN := Lib.hid n_
            have QM := Lib.hid m_
            clear C O X hV_ n_ m_ b
            obtain ⟨x0, x1, x2, x3, x4, x5⟩ := cellsW6 QM.out
            have hwl : w.heap.size ≤ W8.heap.size := C3.out.be.size
            obtain ⟨A9, c9, W9, hrun, ho9, hb9, hw9, hk9, ht9⟩ := once_tells V3 w.heap.size _ _ C4.out.ta x (own_weaker X4.out hwl) (by have := S.out.on.tl; have := N71.out; have := LT.out; omega) C4.out.be.size V3.heap.size rfl W8.heap.size TB.out
            have HRun := Lib.hid hrun
            have QN2 := Lib.hid (hw9 _ _ _ QN.out (by decide))
            have C5 : Hid (OnC w A n c A' n' c' g o (ks ++ [q]) (ts ++ [x.t]) A8 c8 A9 c9 Ao co Bo eo W9) := Lib.hid ⟨hw9 _ _ _ C4.out.n0 (by decide), hw9 _ _ _ C4.out.pg (by decide), hk9 _ _ _ C4.out.ka, by rw [List.length_append]; exact ho9, C4.out.be.trans hb9⟩
            have O5 : Hid (NtO W8.heap.size W9 A2_ c2_ B2_ d2_ o2) := Lib.hid ⟨hk9 _ _ _ O4.out.ks, ht9 _ _ _ (Nat.le_refl _) O4.out.ts⟩
            clear hrun ho9 hb9 hw9 ht9 hk9 C4 O4 QN QM hwl
            go_upto_region 18 with (at_builtin; refine wpList_app (by rfl) _ _ _ rfl _ _ _ _ rfl rfl HRun.out ?_; clear HRun)
            clear x0 x1 x2 x3 x4 x5
            obtain ⟨x0, x1⟩ := cells2 C5.out.pg
            obtain ⟨y0, y1⟩ := cells2 QN2.out
            have f0 := C5.out.pg.frozen 0
            have f1 := C5.out.pg.frozen 1
            go_wp2_with fail
            go_roundw
            case rel =>
              obtain ⟨p_, far_, bel_, own_⟩ := put_old C5.out.pg (.slice A2_ o2.ks.length c2_) (.slice B2_ o2.ts.length d2_) rfl
              have hon := S.out.on.step (j : Int)
              rw [HO1.out] at hon
              have hto : tellT o1 (j : Int) = tellT o (j : Int) := by simp only [tellT, HTS.out]
              rw [HO2.out, HQ.out, HX.out] at hon
              refine ⟨j + 1, o2, ks ++ [q], ts ++ [x.t], A8, c8, A9, c9, A2_, c2_, B2_, d2_, by go_num, by have := HJ.out; omega, by rw [List.length_append]; rfl, by rw [List.length_append]; rfl, far_ _ _ _ C5.out.n0 (by have := S.out.gl; omega), p_, S.out.gl, (O5.out.of own_).weaker C3.out.be.size, own_ _ _ _ _ _ _ C5.out.ka (by decide), ?_, ?_, F2.out, ?_, bel_ _ _ C5.out.be (by have := S.out.gl; omega)⟩
              · obtain ⟨es, v1, v2, v3⟩ := C5.out.ta
                exact ⟨es, own_ _ _ _ _ _ _ v1 (by decide), v2, fun y hy => own_ _ _ _ _ _ _ (v3 y hy) (by decide)⟩
              · rw [HXT.out]; simpa using hon
              · intro t ht_
                rcases List.mem_append.1 ht_ with h | h
                · exact S.out.ft t h
                · simp only [List.mem_singleton] at h
                  subst h
                  rw [HXT.out]
                  exact S.out.fo.sn _ (List.mem_of_getElem? HX.out)
            case measure => have := HJ.out; simp [intOf]; omega
          ·
            have hxa : tellT o (j : Int) = none := tellT_nil (List.eq_nil_of_length_eq_zero (by omega)) _
            have dt : decide ((0 : Int) < (o.ts.length : Int)) = false := by rw [decide_eq_false_iff_not]; omega
            rw [decide_eq_false ht]
            have HX := Lib.hid hxa
            clear hxa hx
            go_upto_region 16 with fail
            refine wp_at (fun V3 hV_ => ?_)
            obtain ⟨b, n_, m_⟩ := two_new y3 25 30 #[.slice A2_ o2.ks.length c2_, .slice B2_ o2.ts.length d2_] #[.int .i64 x.call, .int .u8 x.kind, .int .u8 x.code, .int .i64 x.id, .slice x.A x.n x.c, .bool x.more]
            rw [hV_] at b n_ m_
            have C4 := Lib.hid (C.out.under b)
            have O4 := Lib.hid (O.out.under b)
            have X4 := Lib.hid (own_under X.out b)
            have QN := Lib.hid n_
            have QM := Lib.hid m_
            clear C O X hV_ n_ m_ b
            go_upto_region 18 with fail
            have C5 := C4
            have O5 := O4
            have QN2 := QN
            clear C4 O4 QN QM X4
            obtain ⟨x0, x1⟩ := cells2 C5.out.pg
            obtain ⟨y0, y1⟩ := cells2 QN2.out
            have f0 := C5.out.pg.frozen 0
            have f1 := C5.out.pg.frozen 1
            go_wp2_with fail
            go_roundw
            case rel =>
              obtain ⟨p_, far_, bel_, own_⟩ := put_old C5.out.pg (.slice A2_ o2.ks.length c2_) (.slice B2_ o2.ts.length d2_) rfl
              have hon := S.out.on.step (j : Int)
              rw [HO1.out] at hon
              have hto : tellT o1 (j : Int) = tellT o (j : Int) := by simp only [tellT, HTS.out]
              rw [HO2.out, HQ.out, HX.out] at hon
              refine ⟨j + 1, o2, ks ++ [q], ts, A8, c8, A7, c7, A2_, c2_, B2_, d2_, by go_num, by have := HJ.out; omega, by rw [List.length_append]; rfl, rfl, far_ _ _ _ C5.out.n0 (by have := S.out.gl; omega), p_, S.out.gl, (O5.out.of own_).weaker C3.out.be.size, own_ _ _ _ _ _ _ C5.out.ka (by decide), ?_, ?_, F2.out, ?_, bel_ _ _ C5.out.be (by have := S.out.gl; omega)⟩
              · obtain ⟨es, v1, v2, v3⟩ := C5.out.ta
                exact ⟨es, own_ _ _ _ _ _ _ v1 (by decide), v2, fun y hy => own_ _ _ _ _ _ _ (v3 y hy) (by decide)⟩
              · simpa using hon
              · exact S.out.ft
            case measure => have := HJ.out; simp [intOf]; omega
        ·
          have hqa : askA o (j : Int) = none := askA_nil (List.eq_nil_of_length_eq_zero (by omega)) _
          have dk : decide ((0 : Int) < (o.ks.length : Int)) = false := by rw [decide_eq_false_iff_not]; omega
          rw [decide_eq_false hk]
          have HQ := Lib.hid hqa
          clear hqa hq
          go_upto_region 13 with fail
          refine wp_at (fun V_ hV_ => ?_)
          obtain ⟨b, n_, m_⟩ := two_new y 25 27 #[.slice A1_ o1.ks.length c1_, .slice B1_ o1.ts.length d1_] #[.int .u8 q.kind, .int .i64 q.call, .int .i64 q.a, .int .i64 q.b, .int .i64 q.c, .int .i64 q.d]
          rw [hV_] at b n_ m_
          have C2 := Lib.hid (C.out.under b)
          have O2 := Lib.hid (O.out.under b)
          have PN := Lib.hid n_
          have PM := Lib.hid m_
          have PL := Lib.hid (show wr.heap.size ≤ y.heap.size from UB.out.size)
          clear C O hV_ n_ m_ b
          go_upto_region 15 with fail
          have C3 := C2
          have O3 := O2
          have PN2 := PN
          clear C2 O2 PN PM
          obtain ⟨x0, x1⟩ := cells2 PN2.out
          go_wp2_with fail
          refine Calls.mono (tell_any A1_ o1.ks.length c1_ B1_ o1.ts.length d1_ o1 (j : Int) _ (O3.out.rd F1.out)) ?_
          rintro e y3 ⟨A2_, c2_, B2_, d2_, x, rfl, hx, ox, o_, b⟩
          have UB3 := Lib.hid b
          have C := Lib.hid (C3.out.under b)
          have O := Lib.hid o_
          have X := Lib.hid ox
          have TB := Lib.hid (own_lt C3.out.ta.choose_spec.1)
          clear o_ ox b x0 x1
          obtain ⟨o2, ho2⟩ : ∃ o2, tellN o1 (j : Int) = o2 := ⟨_, rfl⟩
          rw [ho2] at O
          rw [ho2]
          have HO2 := Lib.hid ho2
          have F2 := Lib.hid (show o2.few by rw [← ho2]; exact fewT F1.out _)
          clear ho2
          rw [HTS.out]
          by_cases ht : 0 < o.ts.length
          ·
            obtain ⟨xa, hxa⟩ := tellT_some ht (j : Int)
            have hxb : tellT o1 (j : Int) = some xa := by rw [tellT, HTS.out]; exact hxa
            rw [hxb, Option.getD_some] at hx
            have dt : decide ((0 : Int) < (o.ts.length : Int)) = true := by rw [decide_eq_true_iff]; omega
            rw [decide_eq_true ht]
            have HX := Lib.hid hxa
            have HXT := Lib.hid hx
            clear hxa hxb hx
            go_upto_region 16 with fail
            refine wp_at (fun V3 hV_ => ?_)
            obtain ⟨b, n_, m_⟩ := two_new y3 25 30 #[.slice A2_ o2.ks.length c2_, .slice B2_ o2.ts.length d2_] #[.int .i64 x.call, .int .u8 x.kind, .int .u8 x.code, .int .i64 x.id, .slice x.A x.n x.c, .bool x.more]
            rw [hV_] at b n_ m_
            have C4 := Lib.hid (C.out.under b)
            have O4 := Lib.hid (O.out.under b)
            have X4 := Lib.hid (own_under X.out b)
            have QN := Lib.hid n_
            have QM := Lib.hid m_
            clear C O X hV_ n_ m_ b
            obtain ⟨x0, x1, x2, x3, x4, x5⟩ := cellsW6 QM.out
            have hwl : w.heap.size ≤ V_.heap.size := C3.out.be.size
            obtain ⟨A9, c9, W9, hrun, ho9, hb9, hw9, hk9, ht9⟩ := once_tells V3 w.heap.size _ _ C4.out.ta x (own_weaker X4.out hwl) (by have := S.out.on.tl; have := N71.out; have := LT.out; omega) C4.out.be.size V3.heap.size rfl V_.heap.size TB.out
            have HRun := Lib.hid hrun
            have QN2 := Lib.hid (hw9 _ _ _ QN.out (by decide))
            have C5 : Hid (OnC w A n c A' n' c' g o (ks) (ts ++ [x.t]) A6 c6 A9 c9 Ao co Bo eo W9) := Lib.hid ⟨hw9 _ _ _ C4.out.n0 (by decide), hw9 _ _ _ C4.out.pg (by decide), hk9 _ _ _ C4.out.ka, by rw [List.length_append]; exact ho9, C4.out.be.trans hb9⟩
            have O5 : Hid (NtO V_.heap.size W9 A2_ c2_ B2_ d2_ o2) := Lib.hid ⟨hk9 _ _ _ O4.out.ks, ht9 _ _ _ (Nat.le_refl _) O4.out.ts⟩
            clear hrun ho9 hb9 hw9 ht9 hk9 C4 O4 QN QM hwl
            go_upto_region 18 with (at_builtin; refine wpList_app (by rfl) _ _ _ rfl _ _ _ _ rfl rfl HRun.out ?_; clear HRun)
            clear x0 x1 x2 x3 x4 x5
            obtain ⟨x0, x1⟩ := cells2 C5.out.pg
            obtain ⟨y0, y1⟩ := cells2 QN2.out
            have f0 := C5.out.pg.frozen 0
            have f1 := C5.out.pg.frozen 1
            go_wp2_with fail
            go_roundw
            case rel =>
              obtain ⟨p_, far_, bel_, own_⟩ := put_old C5.out.pg (.slice A2_ o2.ks.length c2_) (.slice B2_ o2.ts.length d2_) rfl
              have hon := S.out.on.step (j : Int)
              rw [HO1.out] at hon
              have hto : tellT o1 (j : Int) = tellT o (j : Int) := by simp only [tellT, HTS.out]
              rw [HO2.out, HQ.out, HX.out] at hon
              refine ⟨j + 1, o2, ks, ts ++ [x.t], A6, c6, A9, c9, A2_, c2_, B2_, d2_, by go_num, by have := HJ.out; omega, rfl, by rw [List.length_append]; rfl, far_ _ _ _ C5.out.n0 (by have := S.out.gl; omega), p_, S.out.gl, (O5.out.of own_).weaker C3.out.be.size, own_ _ _ _ _ _ _ C5.out.ka (by decide), ?_, ?_, F2.out, ?_, bel_ _ _ C5.out.be (by have := S.out.gl; omega)⟩
              · obtain ⟨es, v1, v2, v3⟩ := C5.out.ta
                exact ⟨es, own_ _ _ _ _ _ _ v1 (by decide), v2, fun y hy => own_ _ _ _ _ _ _ (v3 y hy) (by decide)⟩
              · rw [HXT.out]; simpa using hon
              · intro t ht_
                rcases List.mem_append.1 ht_ with h | h
                · exact S.out.ft t h
                · simp only [List.mem_singleton] at h
                  subst h
                  rw [HXT.out]
                  exact S.out.fo.sn _ (List.mem_of_getElem? HX.out)
            case measure => have := HJ.out; simp [intOf]; omega
          ·
            have hxa : tellT o (j : Int) = none := tellT_nil (List.eq_nil_of_length_eq_zero (by omega)) _
            have dt : decide ((0 : Int) < (o.ts.length : Int)) = false := by rw [decide_eq_false_iff_not]; omega
            rw [decide_eq_false ht]
            have HX := Lib.hid hxa
            clear hxa hx
            go_upto_region 16 with fail
            refine wp_at (fun V3 hV_ => ?_)
            obtain ⟨b, n_, m_⟩ := two_new y3 25 30 #[.slice A2_ o2.ks.length c2_, .slice B2_ o2.ts.length d2_] #[.int .i64 x.call, .int .u8 x.kind, .int .u8 x.code, .int .i64 x.id, .slice x.A x.n x.c, .bool x.more]
            rw [hV_] at b n_ m_
            have C4 := Lib.hid (C.out.under b)
            have O4 := Lib.hid (O.out.under b)
            have X4 := Lib.hid (own_under X.out b)
            have QN := Lib.hid n_
            have QM := Lib.hid m_
            clear C O X hV_ n_ m_ b
            go_upto_region 18 with fail
            have C5 := C4
            have O5 := O4
            have QN2 := QN
            clear C4 O4 QN QM X4
            obtain ⟨x0, x1⟩ := cells2 C5.out.pg
            obtain ⟨y0, y1⟩ := cells2 QN2.out
            have f0 := C5.out.pg.frozen 0
            have f1 := C5.out.pg.frozen 1
            go_wp2_with fail
            go_roundw
            case rel =>
              obtain ⟨p_, far_, bel_, own_⟩ := put_old C5.out.pg (.slice A2_ o2.ks.length c2_) (.slice B2_ o2.ts.length d2_) rfl
              have hon := S.out.on.step (j : Int)
              rw [HO1.out] at hon
              have hto : tellT o1 (j : Int) = tellT o (j : Int) := by simp only [tellT, HTS.out]
              rw [HO2.out, HQ.out, HX.out] at hon
              refine ⟨j + 1, o2, ks, ts, A6, c6, A7, c7, A2_, c2_, B2_, d2_, by go_num, by have := HJ.out; omega, rfl, rfl, far_ _ _ _ C5.out.n0 (by have := S.out.gl; omega), p_, S.out.gl, (O5.out.of own_).weaker C3.out.be.size, own_ _ _ _ _ _ _ C5.out.ka (by decide), ?_, ?_, F2.out, ?_, bel_ _ _ C5.out.be (by have := S.out.gl; omega)⟩
              · obtain ⟨es, v1, v2, v3⟩ := C5.out.ta
                exact ⟨es, own_ _ _ _ _ _ _ v1 (by decide), v2, fun y hy => own_ _ _ _ _ _ _ (v3 y hy) (by decide)⟩
              · simpa using hon
              · exact S.out.ft
            case measure => have := HJ.out; simp [intOf]; omega
    ·
      have hjM : j = s.ks.length + s.ts.length := by have := LK.out; have := LT.out; have := HM.out; omega
      have hon := S.out.on
      rw [hjM] at hon
      obtain ⟨q1, q2, q3, q4, q5, q6⟩ := hon.done
      refine wp_at (fun V0 hV0 => ?_)
      have hV1 := hV0.symm
      clear hV0
      subst hV1
      have hkl : ks.length = n := q3.trans LK.out
      have htl : ts.length = n' := q4.trans LT.out
      have dj : decide ((j : Int) < (M : Int)) = false := by rw [decide_eq_false_iff_not]; have := LK.out; have := LT.out; have := HM.out; omega
      have hwM : IntKind.i64.wrap ((n : Int) + (n' : Int)) = (M : Int) := by have := HM.out; rw [wrapI_small (by omega) (by have := N70.out; have := N71.out; omega)]; omega
      have PG : Hid (Whole V0 g 25 #[.slice Ao 0 co, .slice Bo 0 eo]) := Lib.hid (by have h := S.out.pg; rwa [show o.ks.length = 0 by rw [q1]; rfl, show o.ts.length = 0 by rw [q2]; rfl] at h)
      have KR := Lib.hid ((R0.out.up S.out.be).ks.toF)
      have KO := Lib.hid (show RdF 6 Ak.vs V0 V0.heap.size A6 n ks by have h := S.out.ka.read.toF; rwa [hkl] at h)
      obtain ⟨es, hes, htr⟩ := (R0.out.up S.out.be).tsr
      obtain ⟨es', hes', hto, _⟩ := S.out.ta.read
      rw [htl] at hto
      have htso : TsR V0 A7 n' es' := ⟨hto, by have := N71.out; omega, fun x hx => by
        have h3 := S.out.ft x.t (by rw [← hes']; exact List.mem_map_of_mem hx)
        have h4 := (hto.2 x hx).len
        simp only [TE.t] at h3
        omega⟩
      have TR := Lib.hid htr
      have TO := Lib.hid htso
      have ES := Lib.hid hes
      have ES' := Lib.hid hes'
      have N0 := Lib.hid S.out.n0
      have BB := Lib.hid S.out.be
      have D5 := Lib.hid q5
      have D6 := Lib.hid q6
      have KL := Lib.hid hkl
      have TL := Lib.hid htl
      rw [hkl] at e6
      rw [htl] at e7
      subst e6
      subst e7
      clear hjM hon q1 q2 q3 q4 q5 q6 hes htr hes' hto htso hkl htl hj S HM
      obtain ⟨x0, x1⟩ := cells2 N0.out
      obtain ⟨y0, y1⟩ := cells2 PG.out
      go_wp2_with fail
      clear x0 x1 y0 y1 dj hwM PG hlt
      go_loopw [16] (fun i wr => ∃ p : Nat, i = .int .i64 (p : Int) ∧ p ≤ n ∧ Below V0.heap.size V0 wr) (fun i _ => n - (intOf i).toNat)
      case atStart => exact ⟨0, rfl, Nat.zero_le _, Below.refl _ _⟩
      case round =>
        obtain ⟨p, rfl, hp, hb⟩ := hrel
        by_cases hlt : p < n
        ·
          have hp70 : (p : Int) ≤ 70 := by have := N70.out; omega
          have hpi : (p : Int) < (n : Int) := by omega
          obtain ⟨y, hy⟩ : ∃ y, s.ks[p]? = some y := ⟨_, List.getElem?_eq_getElem (by rw [LK.out]; exact hlt)⟩
          obtain ⟨b, off, rfl, hbl, hc⟩ := KR.out.2 (by omega)
          obtain ⟨b6, off6, rfl, hbl6, hc6⟩ := KO.out.2 (by omega)
          have HC := Lib.hid hc
          have HC6 := Lib.hid hc6
          have HBL := Lib.hid hbl
          have HBL6 := Lib.hid hbl6
          have HY := Lib.hid hy
          have HP := Lib.hid hlt
          clear hc hc6 hbl hbl6 hy hlt hp
          obtain ⟨x0, x1⟩ := cells2 (N0.out.under hb)
          have HB := Lib.hid hb
          clear hb
          go_wp2_with fail
          clear x0 x1
          go_loopw [17, 18] (fun m q wr => ∃ (e : Nat) (X : Int), q = .int .i64 (e : Int) ∧ e ≤ n ∧ m = .int .i64 X ∧ X = (cntF s.ks y e : Int) - (cntF ks y e : Int) ∧ Below V0.heap.size V0 wr) (fun _ q _ => n - (intOf q).toNat)
          case atStart => exact ⟨0, 0, rfl, Nat.zero_le _, rfl, by rw [cntF_zero, cntF_zero]; rfl, HB.out⟩
          case round =>
            clear HB
            obtain ⟨e, X, rfl, he, rfl, hX, hb⟩ := hrel
            by_cases hlt : e < n
            ·
              have he70 : (e : Int) ≤ 70 := by have := N70.out; omega
              have hei : (e : Int) < (n : Int) := by omega
              obtain ⟨u, hu⟩ : ∃ u, s.ks[e]? = some u := ⟨_, List.getElem?_eq_getElem (by rw [LK.out]; exact hlt)⟩
              obtain ⟨v, hv⟩ : ∃ v, ks[e]? = some v := ⟨_, List.getElem?_eq_getElem (by rw [KL.out]; exact hlt)⟩
              have k1 := cntF_succ hu y
              have k2 := cntF_succ hv y
              have l1 := cntF_le s.ks y e
              have l2 := cntF_le ks y e
              have CU := Lib.hid (fun (V' : World) (hb : Below V0.heap.size V0 V') => akAt_of (w := V') (b := b) (o := off + e * 6) (x := u) (fun i hi => (hb.cell (p := ⟨b, off + e * 6 + i, none⟩) HBL.out).trans (HC.out e u hu i hi)))
              have CV := Lib.hid (fun (V' : World) (hb : Below V0.heap.size V0 V') => akAt_of (w := V') (b := b6) (o := off6 + e * 6) (x := v) (fun i hi => (hb.cell (p := ⟨b6, off6 + e * 6 + i, none⟩) HBL6.out).trans (HC6.out e v hv i hi)))
              have CY := Lib.hid (fun (V' : World) (hb : Below V0.heap.size V0 V') => akAt_of (w := V') (b := b) (o := off + p * 6) (x := y) (fun i hi => (hb.cell (p := ⟨b, off + p * 6 + i, none⟩) HBL.out).trans (HC.out p y HY.out i hi)))
              have w1 : IntKind.i64.wrap (X + 1) = X + 1 := wrapI_small (by omega) (by omega)
              have w2 : IntKind.i64.wrap (X - 1) = X - 1 := wrapI_small (by omega) (by omega)
              have w3 : IntKind.i64.wrap (X + 1 - 1) = X := by rw [wrapI_small (by omega) (by omega)]; omega
              have w4 : IntKind.i64.wrap X = X := wrapI_small (by omega) (by omega)
              have HLT := Lib.hid hlt
              have HU := Lib.hid hu
              have HV := Lib.hid hv
              have HX := Lib.hid hX
              have K1 := Lib.hid k1
              have K2 := Lib.hid k2
              have HB := Lib.hid hb
              clear hlt hu hv hX k1 k2 l1 l2 hb he
              obtain ⟨x0, x1⟩ := cells2 (N0.out.under HB.out)
              go_upto_region 30 with fail
              clear x0 x1
              by_cases hE : u = y
              ·
                have HE := Lib.hid (show decide (u = y) = true by rw [decide_eq_true_eq]; exact hE)
                have Q1 := Lib.hid hE
                clear hE
                obtain ⟨x0, x1⟩ := cells2 (N0.out.under HB.out)
                obtain ⟨a0, a1, a2, a3, a4, a5⟩ := CU.out _ HB.out
                obtain ⟨b0, b1, b2, b3, b4, b5⟩ := CY.out _ HB.out
                have hq := fun W => (run_eqAk W u y).trans (by rw [HE.out])
                go_quiet (fail)
                clear x0 x1 a0 a1 a2 a3 a4 a5 b0 b1 b2 b3 b4 b5 hq
                clear HE
                go_upto_region 32 with fail
                have HB2 := Lib.hid (below_drewN HB.out nq)
                clear HB
                refine wp_at (fun V1 hV1 => ?_)
                rw [hV1] at HB2
                clear hV1
                by_cases hE : v = y
                ·
                  have HE := Lib.hid (show decide (v = y) = true by rw [decide_eq_true_eq]; exact hE)
                  have Q2 := Lib.hid hE
                  clear hE
                  obtain ⟨x0, x1⟩ := cells2 (N0.out.under HB2.out)
                  obtain ⟨a0, a1, a2, a3, a4, a5⟩ := CV.out _ HB2.out
                  obtain ⟨b0, b1, b2, b3, b4, b5⟩ := CY.out _ HB2.out
                  have hq := fun W => (run_eqAk W v y).trans (by rw [HE.out])
                  go_quiet (fail)
                  clear x0 x1 a0 a1 a2 a3 a4 a5 b0 b1 b2 b3 b4 b5 hq
                  go_wp2_with fail
                  go_roundw
                  case rel => exact ⟨e + 1, X, by go_num, by have := HLT.out; omega, rfl, by have h1 := K1.out; have h2 := K2.out; have h3 := HX.out; rw [if_pos Q1.out] at h1; rw [if_pos Q2.out] at h2; omega, below_drewN HB2.out _⟩
                  case measure => have := HLT.out; simp [intOf]; omega
                ·
                  have HE := Lib.hid (show decide (v = y) = false by rw [decide_eq_false_iff_not]; exact hE)
                  have Q2 := Lib.hid hE
                  clear hE
                  obtain ⟨x0, x1⟩ := cells2 (N0.out.under HB2.out)
                  obtain ⟨a0, a1, a2, a3, a4, a5⟩ := CV.out _ HB2.out
                  obtain ⟨b0, b1, b2, b3, b4, b5⟩ := CY.out _ HB2.out
                  have hq := fun W => (run_eqAk W v y).trans (by rw [HE.out])
                  go_quiet (fail)
                  clear x0 x1 a0 a1 a2 a3 a4 a5 b0 b1 b2 b3 b4 b5 hq
                  go_wp2_with fail
                  go_roundw
                  case rel => exact ⟨e + 1, X + 1, by go_num, by have := HLT.out; omega, rfl, by have h1 := K1.out; have h2 := K2.out; have h3 := HX.out; rw [if_pos Q1.out] at h1; rw [if_neg Q2.out] at h2; omega, below_drewN HB2.out _⟩
                  case measure => have := HLT.out; simp [intOf]; omega
              ·
                have HE := Lib.hid (show decide (u = y) = false by rw [decide_eq_false_iff_not]; exact hE)
                have Q1 := Lib.hid hE
                clear hE
                obtain ⟨x0, x1⟩ := cells2 (N0.out.under HB.out)
                obtain ⟨a0, a1, a2, a3, a4, a5⟩ := CU.out _ HB.out
                obtain ⟨b0, b1, b2, b3, b4, b5⟩ := CY.out _ HB.out
                have hq := fun W => (run_eqAk W u y).trans (by rw [HE.out])
                go_quiet (fail)
                clear x0 x1 a0 a1 a2 a3 a4 a5 b0 b1 b2 b3 b4 b5 hq
                clear HE
                go_upto_region 32 with fail
                have HB2 := Lib.hid (below_drewN HB.out nq)
                clear HB
                refine wp_at (fun V1 hV1 => ?_)
                rw [hV1] at HB2
                clear hV1
                by_cases hE : v = y
                ·
                  have HE := Lib.hid (show decide (v = y) = true by rw [decide_eq_true_eq]; exact hE)
                  have Q2 := Lib.hid hE
                  clear hE
                  obtain ⟨x0, x1⟩ := cells2 (N0.out.under HB2.out)
                  obtain ⟨a0, a1, a2, a3, a4, a5⟩ := CV.out _ HB2.out
                  obtain ⟨b0, b1, b2, b3, b4, b5⟩ := CY.out _ HB2.out
                  have hq := fun W => (run_eqAk W v y).trans (by rw [HE.out])
                  go_quiet (fail)
                  clear x0 x1 a0 a1 a2 a3 a4 a5 b0 b1 b2 b3 b4 b5 hq
                  go_wp2_with fail
                  go_roundw
                  case rel => exact ⟨e + 1, X - 1, by go_num, by have := HLT.out; omega, rfl, by have h1 := K1.out; have h2 := K2.out; have h3 := HX.out; rw [if_neg Q1.out] at h1; rw [if_pos Q2.out] at h2; omega, below_drewN HB2.out _⟩
                  case measure => have := HLT.out; simp [intOf]; omega
                ·
                  have HE := Lib.hid (show decide (v = y) = false by rw [decide_eq_false_iff_not]; exact hE)
                  have Q2 := Lib.hid hE
                  clear hE
                  obtain ⟨x0, x1⟩ := cells2 (N0.out.under HB2.out)
                  obtain ⟨a0, a1, a2, a3, a4, a5⟩ := CV.out _ HB2.out
                  obtain ⟨b0, b1, b2, b3, b4, b5⟩ := CY.out _ HB2.out
                  have hq := fun W => (run_eqAk W v y).trans (by rw [HE.out])
                  go_quiet (fail)
                  clear x0 x1 a0 a1 a2 a3 a4 a5 b0 b1 b2 b3 b4 b5 hq
                  go_wp2_with fail
                  go_roundw
                  case rel => exact ⟨e + 1, X, by go_num, by have := HLT.out; omega, rfl, by have h1 := K1.out; have h2 := K2.out; have h3 := HX.out; rw [if_neg Q1.out] at h1; rw [if_neg Q2.out] at h2; omega, below_drewN HB2.out _⟩
                  case measure => have := HLT.out; simp [intOf]; omega
            ·
              have hX0 : X = 0 := by
                rw [hX, cntF_all (by rw [LK.out]; omega), cntF_all (by rw [KL.out]; omega), D5.out y]
                omega
              subst hX0
              have de : decide ((e : Int) < (n : Int)) = false := by rw [decide_eq_false_iff_not]; omega
              obtain ⟨x0, x1⟩ := cells2 (N0.out.under hb)
              have HB := Lib.hid hb
              clear hb hX he
              go_wp2_with fail
              go_roundw
              case rel => exact ⟨p + 1, by go_num, by have := HP.out; omega, HB.out⟩
              case measure => have := HP.out; simp [intOf]; omega
        ·
          have dp : decide ((p : Int) < (n : Int)) = false := by rw [decide_eq_false_iff_not]; omega
          obtain ⟨x0, x1⟩ := cells2 (N0.out.under hb)
          have HB := Lib.hid hb
          clear hb hp
          go_wp2_with fail
          clear x0 x1 dp
          go_loopw [19] (fun i wr => ∃ p : Nat, i = .int .i64 (p : Int) ∧ p ≤ n' ∧ Below V0.heap.size V0 wr) (fun i _ => n' - (intOf i).toNat)
          case atStart => exact ⟨0, rfl, Nat.zero_le _, HB.out⟩
          case round =>
            clear HB
            obtain ⟨p, rfl, hp, hb⟩ := hrel
            by_cases hlt : p < n'
            ·
              have hp70 : (p : Int) ≤ 70 := by have := N71.out; omega
              have hpi : (p : Int) < (n' : Int) := by omega
              obtain ⟨yt, hy⟩ : ∃ yt, es[p]? = some yt := ⟨_, List.getElem?_eq_getElem (by rw [TR.out.rd.len]; exact hlt)⟩
              obtain ⟨y, hyt⟩ : ∃ y, yt.t = y := ⟨_, rfl⟩
              obtain ⟨b, off, rfl, hbl, hc⟩ := TR.out.rd.1.2 (by omega)
              obtain ⟨b6, off6, rfl, hbl6, hc6⟩ := TO.out.rd.1.2 (by omega)
              have HC := Lib.hid hc
              have HC6 := Lib.hid hc6
              have HBL := Lib.hid hbl
              have HBL6 := Lib.hid hbl6
              have HY := Lib.hid hy
              have HYT := Lib.hid hyt
              have HP := Lib.hid hlt
              clear hc hc6 hbl hbl6 hy hlt hp hyt
              obtain ⟨x0, x1⟩ := cells2 (N0.out.under hb)
              have HB := Lib.hid hb
              clear hb
              go_wp2_with fail
              clear x0 x1
              go_loopw [20, 21] (fun m q wr => ∃ (e : Nat) (X : Int), q = .int .i64 (e : Int) ∧ e ≤ n' ∧ m = .int .i64 X ∧ X = (cntF s.ts y e : Int) - (cntF ts y e : Int) ∧ Below V0.heap.size V0 wr) (fun _ q _ => n' - (intOf q).toNat)
              case atStart => exact ⟨0, 0, rfl, Nat.zero_le _, rfl, by rw [cntF_zero, cntF_zero]; rfl, HB.out⟩
              case round =>
                clear HB
                obtain ⟨e, X, rfl, he, rfl, hX, hb⟩ := hrel
                by_cases hlt : e < n'
                ·
                  have he70 : (e : Int) ≤ 70 := by have := N71.out; omega
                  have hei : (e : Int) < (n' : Int) := by omega
                  obtain ⟨u, hu⟩ : ∃ u, es[e]? = some u := ⟨_, List.getElem?_eq_getElem (by rw [TR.out.rd.len]; exact hlt)⟩
                  obtain ⟨v, hv⟩ : ∃ v, es'[e]? = some v := ⟨_, List.getElem?_eq_getElem (by rw [TO.out.rd.len]; exact hlt)⟩
                  have k1 := cntF_succ (l := s.ts) (j := e) (x := u.t) (by rw [← ES.out, List.getElem?_map, hu]; rfl) y
                  have k2 := cntF_succ (l := ts) (j := e) (x := v.t) (by rw [← ES'.out, List.getElem?_map, hv]; rfl) y
                  have l1 := cntF_le s.ts y e
                  have l2 := cntF_le ts y e
                  have CU := Lib.hid (fun (V' : World) (hb : Below V0.heap.size V0 V') => tlAt_of (w := V') (b := b) (o := off + e * 6) (x := u) (fun i hi => (hb.cell (p := ⟨b, off + e * 6 + i, none⟩) HBL.out).trans (HC.out e u hu i hi)))
                  have CV := Lib.hid (fun (V' : World) (hb : Below V0.heap.size V0 V') => tlAt_of (w := V') (b := b6) (o := off6 + e * 6) (x := v) (fun i hi => (hb.cell (p := ⟨b6, off6 + e * 6 + i, none⟩) HBL6.out).trans (HC6.out e v hv i hi)))
                  have CY := Lib.hid (fun (V' : World) (hb : Below V0.heap.size V0 V') => tlAt_of (w := V') (b := b) (o := off + p * 6) (x := yt) (fun i hi => (hb.cell (p := ⟨b, off + p * 6 + i, none⟩) HBL.out).trans (HC.out p yt HY.out i hi)))
                  have w1 : IntKind.i64.wrap (X + 1) = X + 1 := wrapI_small (by omega) (by omega)
                  have w2 : IntKind.i64.wrap (X - 1) = X - 1 := wrapI_small (by omega) (by omega)
                  have w3 : IntKind.i64.wrap (X + 1 - 1) = X := by rw [wrapI_small (by omega) (by omega)]; omega
                  have w4 : IntKind.i64.wrap X = X := wrapI_small (by omega) (by omega)
                  have HLT := Lib.hid hlt
                  have HU := Lib.hid hu
                  have HV := Lib.hid hv
                  have HX := Lib.hid hX
                  have K1 := Lib.hid k1
                  have K2 := Lib.hid k2
                  have HB := Lib.hid hb
                  clear hlt hu hv hX k1 k2 l1 l2 hb he
                  obtain ⟨x0, x1⟩ := cells2 (N0.out.under HB.out)
                  go_upto_region 43 with fail
                  clear x0 x1
                  by_cases hE : u.t = yt.t
                  ·
                    have HE := Lib.hid (show decide (u.t = yt.t) = true by rw [decide_eq_true_eq]; exact hE)
                    have Q1 := Lib.hid hE
                    clear hE
                    have HT : Hid ((fun (V' : World) => V'.cell? ⟨w.heap.size, 1, none⟩ = some (.slice (some ⟨b, off, none⟩) n' c') ∧ TlAt V' b (off + e * 6) u ∧ TlAt V' b (off + p * 6) yt) _) := Lib.hid (show (fun (V' : World) => V'.cell? ⟨w.heap.size, 1, none⟩ = some (.slice (some ⟨b, off, none⟩) n' c') ∧ TlAt V' b (off + e * 6) u ∧ TlAt V' b (off + p * 6) yt) _ from ⟨(cells2 (N0.out.under (HB.out.drew))).2, CU.out _ HB.out.drew, CY.out _ HB.out.drew⟩)
                    refine wp_region_T (ls := []) (T := (fun (V' : World) => V'.cell? ⟨w.heap.size, 1, none⟩ = some (.slice (some ⟨b, off, none⟩) n' c') ∧ TlAt V' b (off + e * 6) u ∧ TlAt V' b (off + p * 6) yt)) (by kernel_rfl) ?_
                    refine takeT (i := 0) (v := ?_) rfl (by kernel_rfl) (by kernel_rfl) (by kernel_rfl) (by kernel_rfl) (fun _ _ _ h => h) (by rfl) ?_ HT.out ?_
                    rotate_left
                    · intro V' hV; obtain ⟨v0, ⟨a0, a1, a2, a3, a4, a5⟩, b0, b1, b2, b3, b4, b5⟩ := hV; go_simp <;> with_reducible rfl
                    simp only [Act.put, List.setIfInBounds_toArray, List.set_cons_zero, List.set_cons_succ]
                    refine takeT (i := 1) (v := ?_) rfl (by kernel_rfl) (by kernel_rfl) (by kernel_rfl) (by kernel_rfl) (fun _ _ _ h => h) (by rfl) ?_ HT.out ?_
                    rotate_left
                    · intro V' hV; obtain ⟨v0, ⟨a0, a1, a2, a3, a4, a5⟩, b0, b1, b2, b3, b4, b5⟩ := hV; go_simp <;> with_reducible rfl
                    simp only [Act.put, List.setIfInBounds_toArray, List.set_cons_zero, List.set_cons_succ]
                    refine takeT (i := 2) (v := ?_) rfl (by kernel_rfl) (by kernel_rfl) (by kernel_rfl) (by kernel_rfl) (fun _ _ _ h => h) (by rfl) ?_ HT.out ?_
                    rotate_left
                    · intro V' hV; obtain ⟨v0, ⟨a0, a1, a2, a3, a4, a5⟩, b0, b1, b2, b3, b4, b5⟩ := hV; go_simp <;> with_reducible rfl
                    simp only [Act.put, List.setIfInBounds_toArray, List.set_cons_zero, List.set_cons_succ]
                    refine takeT (i := 3) (v := ?_) rfl (by kernel_rfl) (by kernel_rfl) (by kernel_rfl) (by kernel_rfl) (fun _ _ _ h => h) (by rfl) ?_ HT.out ?_
                    rotate_left
                    · intro V' hV; obtain ⟨v0, ⟨a0, a1, a2, a3, a4, a5⟩, b0, b1, b2, b3, b4, b5⟩ := hV; go_simp <;> with_reducible rfl
                    simp only [Act.put, List.setIfInBounds_toArray, List.set_cons_zero, List.set_cons_succ]
                    refine takeT (i := 4) (v := ?_) rfl (by kernel_rfl) (by kernel_rfl) (by kernel_rfl) (by kernel_rfl) (fun _ _ _ h => h) (by rfl) ?_ HT.out ?_
                    rotate_left
                    · intro V' hV; obtain ⟨v0, ⟨a0, a1, a2, a3, a4, a5⟩, b0, b1, b2, b3, b4, b5⟩ := hV; go_simp <;> with_reducible rfl
                    simp only [Act.put, List.setIfInBounds_toArray, List.set_cons_zero, List.set_cons_succ]
                    refine takeT (i := 5) (v := ?_) rfl (by kernel_rfl) (by kernel_rfl) (by kernel_rfl) (by kernel_rfl) (fun _ _ _ h => h) (by rfl) ?_ HT.out ?_
                    rotate_left
                    · intro V' hV; obtain ⟨v0, ⟨a0, a1, a2, a3, a4, a5⟩, b0, b1, b2, b3, b4, b5⟩ := hV; go_simp <;> with_reducible rfl
                    simp only [Act.put, List.setIfInBounds_toArray, List.set_cons_zero, List.set_cons_succ]
                    refine takeT (i := 6) (v := ?_) rfl (by kernel_rfl) (by kernel_rfl) (by kernel_rfl) (by kernel_rfl) (fun _ _ _ h => h) (by rfl) ?_ HT.out ?_
                    rotate_left
                    · intro V' hV; obtain ⟨v0, ⟨a0, a1, a2, a3, a4, a5⟩, b0, b1, b2, b3, b4, b5⟩ := hV; go_simp <;> with_reducible rfl
                    simp only [Act.put, List.setIfInBounds_toArray, List.set_cons_zero, List.set_cons_succ]
                    refine takeT (i := 7) (v := ?_) rfl (by kernel_rfl) (by kernel_rfl) (by kernel_rfl) (by kernel_rfl) (fun _ _ _ h => h) (by rfl) ?_ HT.out ?_
                    rotate_left
                    · intro V' hV; obtain ⟨v0, ⟨a0, a1, a2, a3, a4, a5⟩, b0, b1, b2, b3, b4, b5⟩ := hV; go_simp <;> with_reducible rfl
                    simp only [Act.put, List.setIfInBounds_toArray, List.set_cons_zero, List.set_cons_succ]
                    refine takeT (i := 8) (v := ?_) rfl (by kernel_rfl) (by kernel_rfl) (by kernel_rfl) (by kernel_rfl) (fun _ _ _ h => h) (by rfl) ?_ HT.out ?_
                    rotate_left
                    · intro V' hV; obtain ⟨v0, ⟨a0, a1, a2, a3, a4, a5⟩, b0, b1, b2, b3, b4, b5⟩ := hV; go_simp <;> with_reducible rfl
                    simp only [Act.put, List.setIfInBounds_toArray, List.set_cons_zero, List.set_cons_succ]
                    refine takeT (i := 9) (v := ?_) rfl (by kernel_rfl) (by kernel_rfl) (by kernel_rfl) (by kernel_rfl) (fun _ _ _ h => h) (by rfl) ?_ HT.out ?_
                    rotate_left
                    · intro V' hV; obtain ⟨v0, ⟨a0, a1, a2, a3, a4, a5⟩, b0, b1, b2, b3, b4, b5⟩ := hV; go_simp <;> with_reducible rfl
                    simp only [Act.put, List.setIfInBounds_toArray, List.set_cons_zero, List.set_cons_succ]
                    refine oneT (i := 10) rfl (by kernel_rfl) (by rfl) (fun K hK => ?_)
                    go_simp
                    go_at_call 21
                    refine (told_any u yt _ ((TR.out.te HU.out).up HB.out.drew) ((TR.out.te HY.out).up HB.out.drew)).mono ?_
                    rintro e9 w9 ⟨rfl, b9⟩
                    rw [HE.out]
                    have HB9 := Lib.hid (HB.out.drew.trans (b9.mono HB.out.drew.size))
                    have HT9 : Hid ((fun (V' : World) => V'.cell? ⟨w.heap.size, 1, none⟩ = some (.slice (some ⟨b, off, none⟩) n' c') ∧ TlAt V' b (off + e * 6) u ∧ TlAt V' b (off + p * 6) yt) w9) := Lib.hid ⟨(cells2 (N0.out.under HB9.out)).2, CU.out _ HB9.out, CY.out _ HB9.out⟩
                    clear b9 HT
                    refine hK.out _ _ (fun _ => HT9.out) ?_
                    clear hK K HT9
                    refine doneT (by kernel_rfl) ?_ _
                    clear HB
                    have HB := HB9
                    clear HB9
                    clear HE
                    go_upto_region 45 with fail
                    have HB2 := HB
                    clear HB
                    by_cases hE : v.t = yt.t
                    ·
                      have HE := Lib.hid (show decide (v.t = yt.t) = true by rw [decide_eq_true_eq]; exact hE)
                      have Q2 := Lib.hid hE
                      clear hE
                      have HT : Hid ((fun (V' : World) => V'.cell? ⟨w.heap.size, 1, none⟩ = some (.slice (some ⟨b, off, none⟩) n' c') ∧ TlAt V' b6 (off6 + e * 6) v ∧ TlAt V' b (off + p * 6) yt) _) := Lib.hid (show (fun (V' : World) => V'.cell? ⟨w.heap.size, 1, none⟩ = some (.slice (some ⟨b, off, none⟩) n' c') ∧ TlAt V' b6 (off6 + e * 6) v ∧ TlAt V' b (off + p * 6) yt) _ from ⟨(cells2 (N0.out.under (HB2.out.drew))).2, CV.out _ HB2.out.drew, CY.out _ HB2.out.drew⟩)
                      refine wp_region_T (ls := []) (T := (fun (V' : World) => V'.cell? ⟨w.heap.size, 1, none⟩ = some (.slice (some ⟨b, off, none⟩) n' c') ∧ TlAt V' b6 (off6 + e * 6) v ∧ TlAt V' b (off + p * 6) yt)) (by kernel_rfl) ?_
                      refine takeT (i := 0) (v := ?_) rfl (by kernel_rfl) (by kernel_rfl) (by kernel_rfl) (by kernel_rfl) (fun _ _ _ h => h) (by rfl) ?_ HT.out ?_
                      rotate_left
                      · intro V' hV; obtain ⟨v0, ⟨a0, a1, a2, a3, a4, a5⟩, b0, b1, b2, b3, b4, b5⟩ := hV; go_simp <;> with_reducible rfl
                      simp only [Act.put, List.setIfInBounds_toArray, List.set_cons_zero, List.set_cons_succ]
                      refine takeT (i := 1) (v := ?_) rfl (by kernel_rfl) (by kernel_rfl) (by kernel_rfl) (by kernel_rfl) (fun _ _ _ h => h) (by rfl) ?_ HT.out ?_
                      rotate_left
                      · intro V' hV; obtain ⟨v0, ⟨a0, a1, a2, a3, a4, a5⟩, b0, b1, b2, b3, b4, b5⟩ := hV; go_simp <;> with_reducible rfl
                      simp only [Act.put, List.setIfInBounds_toArray, List.set_cons_zero, List.set_cons_succ]
                      refine takeT (i := 2) (v := ?_) rfl (by kernel_rfl) (by kernel_rfl) (by kernel_rfl) (by kernel_rfl) (fun _ _ _ h => h) (by rfl) ?_ HT.out ?_
                      rotate_left
                      · intro V' hV; obtain ⟨v0, ⟨a0, a1, a2, a3, a4, a5⟩, b0, b1, b2, b3, b4, b5⟩ := hV; go_simp <;> with_reducible rfl
                      simp only [Act.put, List.setIfInBounds_toArray, List.set_cons_zero, List.set_cons_succ]
                      refine takeT (i := 3) (v := ?_) rfl (by kernel_rfl) (by kernel_rfl) (by kernel_rfl) (by kernel_rfl) (fun _ _ _ h => h) (by rfl) ?_ HT.out ?_
                      rotate_left
                      · intro V' hV; obtain ⟨v0, ⟨a0, a1, a2, a3, a4, a5⟩, b0, b1, b2, b3, b4, b5⟩ := hV; go_simp <;> with_reducible rfl
                      simp only [Act.put, List.setIfInBounds_toArray, List.set_cons_zero, List.set_cons_succ]
                      refine takeT (i := 4) (v := ?_) rfl (by kernel_rfl) (by kernel_rfl) (by kernel_rfl) (by kernel_rfl) (fun _ _ _ h => h) (by rfl) ?_ HT.out ?_
                      rotate_left
                      · intro V' hV; obtain ⟨v0, ⟨a0, a1, a2, a3, a4, a5⟩, b0, b1, b2, b3, b4, b5⟩ := hV; go_simp <;> with_reducible rfl
                      simp only [Act.put, List.setIfInBounds_toArray, List.set_cons_zero, List.set_cons_succ]
                      refine takeT (i := 5) (v := ?_) rfl (by kernel_rfl) (by kernel_rfl) (by kernel_rfl) (by kernel_rfl) (fun _ _ _ h => h) (by rfl) ?_ HT.out ?_
                      rotate_left
                      · intro V' hV; obtain ⟨v0, ⟨a0, a1, a2, a3, a4, a5⟩, b0, b1, b2, b3, b4, b5⟩ := hV; go_simp <;> with_reducible rfl
                      simp only [Act.put, List.setIfInBounds_toArray, List.set_cons_zero, List.set_cons_succ]
                      refine takeT (i := 6) (v := ?_) rfl (by kernel_rfl) (by kernel_rfl) (by kernel_rfl) (by kernel_rfl) (fun _ _ _ h => h) (by rfl) ?_ HT.out ?_
                      rotate_left
                      · intro V' hV; obtain ⟨v0, ⟨a0, a1, a2, a3, a4, a5⟩, b0, b1, b2, b3, b4, b5⟩ := hV; go_simp <;> with_reducible rfl
                      simp only [Act.put, List.setIfInBounds_toArray, List.set_cons_zero, List.set_cons_succ]
                      refine takeT (i := 7) (v := ?_) rfl (by kernel_rfl) (by kernel_rfl) (by kernel_rfl) (by kernel_rfl) (fun _ _ _ h => h) (by rfl) ?_ HT.out ?_
                      rotate_left
                      · intro V' hV; obtain ⟨v0, ⟨a0, a1, a2, a3, a4, a5⟩, b0, b1, b2, b3, b4, b5⟩ := hV; go_simp <;> with_reducible rfl
                      simp only [Act.put, List.setIfInBounds_toArray, List.set_cons_zero, List.set_cons_succ]
                      refine takeT (i := 8) (v := ?_) rfl (by kernel_rfl) (by kernel_rfl) (by kernel_rfl) (by kernel_rfl) (fun _ _ _ h => h) (by rfl) ?_ HT.out ?_
                      rotate_left
                      · intro V' hV; obtain ⟨v0, ⟨a0, a1, a2, a3, a4, a5⟩, b0, b1, b2, b3, b4, b5⟩ := hV; go_simp <;> with_reducible rfl
                      simp only [Act.put, List.setIfInBounds_toArray, List.set_cons_zero, List.set_cons_succ]
                      refine oneT (i := 9) rfl (by kernel_rfl) (by rfl) (fun K hK => ?_)
                      go_simp
                      go_at_call 21
                      refine (told_any v yt _ ((TO.out.te HV.out).up HB2.out.drew) ((TR.out.te HY.out).up HB2.out.drew)).mono ?_
                      rintro e9 w9 ⟨rfl, b9⟩
                      rw [HE.out]
                      have HB9 := Lib.hid (HB2.out.drew.trans (b9.mono HB2.out.drew.size))
                      have HT9 : Hid ((fun (V' : World) => V'.cell? ⟨w.heap.size, 1, none⟩ = some (.slice (some ⟨b, off, none⟩) n' c') ∧ TlAt V' b6 (off6 + e * 6) v ∧ TlAt V' b (off + p * 6) yt) w9) := Lib.hid ⟨(cells2 (N0.out.under HB9.out)).2, CV.out _ HB9.out, CY.out _ HB9.out⟩
                      clear b9 HT
                      refine hK.out _ _ (fun _ => HT9.out) ?_
                      clear hK K HT9
                      refine doneT (by kernel_rfl) ?_ _
                      clear HB2
                      have HB2 := HB9
                      clear HB9
                      go_wp2_with fail
                      go_roundw
                      case rel => exact ⟨e + 1, X, by go_num, by have := HLT.out; omega, rfl, by have h1 := K1.out; have h2 := K2.out; have h3 := HX.out; rw [if_pos (by rw [← HYT.out]; exact Q1.out)] at h1; rw [if_pos (by rw [← HYT.out]; exact Q2.out)] at h2; omega, HB2.out⟩
                      case measure => have := HLT.out; simp [intOf]; omega
                    ·
                      have HE := Lib.hid (show decide (v.t = yt.t) = false by rw [decide_eq_false_iff_not]; exact hE)
                      have Q2 := Lib.hid hE
                      clear hE
                      have HT : Hid ((fun (V' : World) => V'.cell? ⟨w.heap.size, 1, none⟩ = some (.slice (some ⟨b, off, none⟩) n' c') ∧ TlAt V' b6 (off6 + e * 6) v ∧ TlAt V' b (off + p * 6) yt) _) := Lib.hid (show (fun (V' : World) => V'.cell? ⟨w.heap.size, 1, none⟩ = some (.slice (some ⟨b, off, none⟩) n' c') ∧ TlAt V' b6 (off6 + e * 6) v ∧ TlAt V' b (off + p * 6) yt) _ from ⟨(cells2 (N0.out.under (HB2.out.drew))).2, CV.out _ HB2.out.drew, CY.out _ HB2.out.drew⟩)
                      refine wp_region_T (ls := []) (T := (fun (V' : World) => V'.cell? ⟨w.heap.size, 1, none⟩ = some (.slice (some ⟨b, off, none⟩) n' c') ∧ TlAt V' b6 (off6 + e * 6) v ∧ TlAt V' b (off + p * 6) yt)) (by kernel_rfl) ?_
                      refine takeT (i := 0) (v := ?_) rfl (by kernel_rfl) (by kernel_rfl) (by kernel_rfl) (by kernel_rfl) (fun _ _ _ h => h) (by rfl) ?_ HT.out ?_
                      rotate_left
                      · intro V' hV; obtain ⟨v0, ⟨a0, a1, a2, a3, a4, a5⟩, b0, b1, b2, b3, b4, b5⟩ := hV; go_simp <;> with_reducible rfl
                      simp only [Act.put, List.setIfInBounds_toArray, List.set_cons_zero, List.set_cons_succ]
                      refine takeT (i := 1) (v := ?_) rfl (by kernel_rfl) (by kernel_rfl) (by kernel_rfl) (by kernel_rfl) (fun _ _ _ h => h) (by rfl) ?_ HT.out ?_
                      rotate_left
                      · intro V' hV; obtain ⟨v0, ⟨a0, a1, a2, a3, a4, a5⟩, b0, b1, b2, b3, b4, b5⟩ := hV; go_simp <;> with_reducible rfl
                      simp only [Act.put, List.setIfInBounds_toArray, List.set_cons_zero, List.set_cons_succ]
                      refine takeT (i := 2) (v := ?_) rfl (by kernel_rfl) (by kernel_rfl) (by kernel_rfl) (by kernel_rfl) (fun _ _ _ h => h) (by rfl) ?_ HT.out ?_
                      rotate_left
                      · intro V' hV; obtain ⟨v0, ⟨a0, a1, a2, a3, a4, a5⟩, b0, b1, b2, b3, b4, b5⟩ := hV; go_simp <;> with_reducible rfl
                      simp only [Act.put, List.setIfInBounds_toArray, List.set_cons_zero, List.set_cons_succ]
                      refine takeT (i := 3) (v := ?_) rfl (by kernel_rfl) (by kernel_rfl) (by kernel_rfl) (by kernel_rfl) (fun _ _ _ h => h) (by rfl) ?_ HT.out ?_
                      rotate_left
                      · intro V' hV; obtain ⟨v0, ⟨a0, a1, a2, a3, a4, a5⟩, b0, b1, b2, b3, b4, b5⟩ := hV; go_simp <;> with_reducible rfl
                      simp only [Act.put, List.setIfInBounds_toArray, List.set_cons_zero, List.set_cons_succ]
                      refine takeT (i := 4) (v := ?_) rfl (by kernel_rfl) (by kernel_rfl) (by kernel_rfl) (by kernel_rfl) (fun _ _ _ h => h) (by rfl) ?_ HT.out ?_
                      rotate_left
                      · intro V' hV; obtain ⟨v0, ⟨a0, a1, a2, a3, a4, a5⟩, b0, b1, b2, b3, b4, b5⟩ := hV; go_simp <;> with_reducible rfl
                      simp only [Act.put, List.setIfInBounds_toArray, List.set_cons_zero, List.set_cons_succ]
                      refine takeT (i := 5) (v := ?_) rfl (by kernel_rfl) (by kernel_rfl) (by kernel_rfl) (by kernel_rfl) (fun _ _ _ h => h) (by rfl) ?_ HT.out ?_
                      rotate_left
                      · intro V' hV; obtain ⟨v0, ⟨a0, a1, a2, a3, a4, a5⟩, b0, b1, b2, b3, b4, b5⟩ := hV; go_simp <;> with_reducible rfl
                      simp only [Act.put, List.setIfInBounds_toArray, List.set_cons_zero, List.set_cons_succ]
                      refine takeT (i := 6) (v := ?_) rfl (by kernel_rfl) (by kernel_rfl) (by kernel_rfl) (by kernel_rfl) (fun _ _ _ h => h) (by rfl) ?_ HT.out ?_
                      rotate_left
                      · intro V' hV; obtain ⟨v0, ⟨a0, a1, a2, a3, a4, a5⟩, b0, b1, b2, b3, b4, b5⟩ := hV; go_simp <;> with_reducible rfl
                      simp only [Act.put, List.setIfInBounds_toArray, List.set_cons_zero, List.set_cons_succ]
                      refine takeT (i := 7) (v := ?_) rfl (by kernel_rfl) (by kernel_rfl) (by kernel_rfl) (by kernel_rfl) (fun _ _ _ h => h) (by rfl) ?_ HT.out ?_
                      rotate_left
                      · intro V' hV; obtain ⟨v0, ⟨a0, a1, a2, a3, a4, a5⟩, b0, b1, b2, b3, b4, b5⟩ := hV; go_simp <;> with_reducible rfl
                      simp only [Act.put, List.setIfInBounds_toArray, List.set_cons_zero, List.set_cons_succ]
                      refine takeT (i := 8) (v := ?_) rfl (by kernel_rfl) (by kernel_rfl) (by kernel_rfl) (by kernel_rfl) (fun _ _ _ h => h) (by rfl) ?_ HT.out ?_
                      rotate_left
                      · intro V' hV; obtain ⟨v0, ⟨a0, a1, a2, a3, a4, a5⟩, b0, b1, b2, b3, b4, b5⟩ := hV; go_simp <;> with_reducible rfl
                      simp only [Act.put, List.setIfInBounds_toArray, List.set_cons_zero, List.set_cons_succ]
                      refine oneT (i := 9) rfl (by kernel_rfl) (by rfl) (fun K hK => ?_)
                      go_simp
                      go_at_call 21
                      refine (told_any v yt _ ((TO.out.te HV.out).up HB2.out.drew) ((TR.out.te HY.out).up HB2.out.drew)).mono ?_
                      rintro e9 w9 ⟨rfl, b9⟩
                      rw [HE.out]
                      have HB9 := Lib.hid (HB2.out.drew.trans (b9.mono HB2.out.drew.size))
                      have HT9 : Hid ((fun (V' : World) => V'.cell? ⟨w.heap.size, 1, none⟩ = some (.slice (some ⟨b, off, none⟩) n' c') ∧ TlAt V' b6 (off6 + e * 6) v ∧ TlAt V' b (off + p * 6) yt) w9) := Lib.hid ⟨(cells2 (N0.out.under HB9.out)).2, CV.out _ HB9.out, CY.out _ HB9.out⟩
                      clear b9 HT
                      refine hK.out _ _ (fun _ => HT9.out) ?_
                      clear hK K HT9
                      refine doneT (by kernel_rfl) ?_ _
                      clear HB2
                      have HB2 := HB9
                      clear HB9
                      go_wp2_with fail
                      go_roundw
                      case rel => exact ⟨e + 1, X + 1, by go_num, by have := HLT.out; omega, rfl, by have h1 := K1.out; have h2 := K2.out; have h3 := HX.out; rw [if_pos (by rw [← HYT.out]; exact Q1.out)] at h1; rw [if_neg (by rw [← HYT.out]; exact Q2.out)] at h2; omega, HB2.out⟩
                      case measure => have := HLT.out; simp [intOf]; omega
                  ·
                    have HE := Lib.hid (show decide (u.t = yt.t) = false by rw [decide_eq_false_iff_not]; exact hE)
                    have Q1 := Lib.hid hE
                    clear hE
                    have HT : Hid ((fun (V' : World) => V'.cell? ⟨w.heap.size, 1, none⟩ = some (.slice (some ⟨b, off, none⟩) n' c') ∧ TlAt V' b (off + e * 6) u ∧ TlAt V' b (off + p * 6) yt) _) := Lib.hid (show (fun (V' : World) => V'.cell? ⟨w.heap.size, 1, none⟩ = some (.slice (some ⟨b, off, none⟩) n' c') ∧ TlAt V' b (off + e * 6) u ∧ TlAt V' b (off + p * 6) yt) _ from ⟨(cells2 (N0.out.under (HB.out.drew))).2, CU.out _ HB.out.drew, CY.out _ HB.out.drew⟩)
                    refine wp_region_T (ls := []) (T := (fun (V' : World) => V'.cell? ⟨w.heap.size, 1, none⟩ = some (.slice (some ⟨b, off, none⟩) n' c') ∧ TlAt V' b (off + e * 6) u ∧ TlAt V' b (off + p * 6) yt)) (by kernel_rfl) ?_
                    refine takeT (i := 0) (v := ?_) rfl (by kernel_rfl) (by kernel_rfl) (by kernel_rfl) (by kernel_rfl) (fun _ _ _ h => h) (by rfl) ?_ HT.out ?_
                    rotate_left
                    · intro V' hV; obtain ⟨v0, ⟨a0, a1, a2, a3, a4, a5⟩, b0, b1, b2, b3, b4, b5⟩ := hV; go_simp <;> with_reducible rfl
                    simp only [Act.put, List.setIfInBounds_toArray, List.set_cons_zero, List.set_cons_succ]
                    refine takeT (i := 1) (v := ?_) rfl (by kernel_rfl) (by kernel_rfl) (by kernel_rfl) (by kernel_rfl) (fun _ _ _ h => h) (by rfl) ?_ HT.out ?_
                    rotate_left
                    · intro V' hV; obtain ⟨v0, ⟨a0, a1, a2, a3, a4, a5⟩, b0, b1, b2, b3, b4, b5⟩ := hV; go_simp <;> with_reducible rfl
                    simp only [Act.put, List.setIfInBounds_toArray, List.set_cons_zero, List.set_cons_succ]
                    refine takeT (i := 2) (v := ?_) rfl (by kernel_rfl) (by kernel_rfl) (by kernel_rfl) (by kernel_rfl) (fun _ _ _ h => h) (by rfl) ?_ HT.out ?_
                    rotate_left
                    · intro V' hV; obtain ⟨v0, ⟨a0, a1, a2, a3, a4, a5⟩, b0, b1, b2, b3, b4, b5⟩ := hV; go_simp <;> with_reducible rfl
                    simp only [Act.put, List.setIfInBounds_toArray, List.set_cons_zero, List.set_cons_succ]
                    refine takeT (i := 3) (v := ?_) rfl (by kernel_rfl) (by kernel_rfl) (by kernel_rfl) (by kernel_rfl) (fun _ _ _ h => h) (by rfl) ?_ HT.out ?_
                    rotate_left
                    · intro V' hV; obtain ⟨v0, ⟨a0, a1, a2, a3, a4, a5⟩, b0, b1, b2, b3, b4, b5⟩ := hV; go_simp <;> with_reducible rfl
                    simp only [Act.put, List.setIfInBounds_toArray, List.set_cons_zero, List.set_cons_succ]
                    refine takeT (i := 4) (v := ?_) rfl (by kernel_rfl) (by kernel_rfl) (by kernel_rfl) (by kernel_rfl) (fun _ _ _ h => h) (by rfl) ?_ HT.out ?_
                    rotate_left
                    · intro V' hV; obtain ⟨v0, ⟨a0, a1, a2, a3, a4, a5⟩, b0, b1, b2, b3, b4, b5⟩ := hV; go_simp <;> with_reducible rfl
                    simp only [Act.put, List.setIfInBounds_toArray, List.set_cons_zero, List.set_cons_succ]
                    refine takeT (i := 5) (v := ?_) rfl (by kernel_rfl) (by kernel_rfl) (by kernel_rfl) (by kernel_rfl) (fun _ _ _ h => h) (by rfl) ?_ HT.out ?_
                    rotate_left
                    · intro V' hV; obtain ⟨v0, ⟨a0, a1, a2, a3, a4, a5⟩, b0, b1, b2, b3, b4, b5⟩ := hV; go_simp <;> with_reducible rfl
                    simp only [Act.put, List.setIfInBounds_toArray, List.set_cons_zero, List.set_cons_succ]
                    refine takeT (i := 6) (v := ?_) rfl (by kernel_rfl) (by kernel_rfl) (by kernel_rfl) (by kernel_rfl) (fun _ _ _ h => h) (by rfl) ?_ HT.out ?_
                    rotate_left
                    · intro V' hV; obtain ⟨v0, ⟨a0, a1, a2, a3, a4, a5⟩, b0, b1, b2, b3, b4, b5⟩ := hV; go_simp <;> with_reducible rfl
                    simp only [Act.put, List.setIfInBounds_toArray, List.set_cons_zero, List.set_cons_succ]
                    refine takeT (i := 7) (v := ?_) rfl (by kernel_rfl) (by kernel_rfl) (by kernel_rfl) (by kernel_rfl) (fun _ _ _ h => h) (by rfl) ?_ HT.out ?_
                    rotate_left
                    · intro V' hV; obtain ⟨v0, ⟨a0, a1, a2, a3, a4, a5⟩, b0, b1, b2, b3, b4, b5⟩ := hV; go_simp <;> with_reducible rfl
                    simp only [Act.put, List.setIfInBounds_toArray, List.set_cons_zero, List.set_cons_succ]
                    refine takeT (i := 8) (v := ?_) rfl (by kernel_rfl) (by kernel_rfl) (by kernel_rfl) (by kernel_rfl) (fun _ _ _ h => h) (by rfl) ?_ HT.out ?_
                    rotate_left
                    · intro V' hV; obtain ⟨v0, ⟨a0, a1, a2, a3, a4, a5⟩, b0, b1, b2, b3, b4, b5⟩ := hV; go_simp <;> with_reducible rfl
                    simp only [Act.put, List.setIfInBounds_toArray, List.set_cons_zero, List.set_cons_succ]
                    refine takeT (i := 9) (v := ?_) rfl (by kernel_rfl) (by kernel_rfl) (by kernel_rfl) (by kernel_rfl) (fun _ _ _ h => h) (by rfl) ?_ HT.out ?_
                    rotate_left
                    · intro V' hV; obtain ⟨v0, ⟨a0, a1, a2, a3, a4, a5⟩, b0, b1, b2, b3, b4, b5⟩ := hV; go_simp <;> with_reducible rfl
                    simp only [Act.put, List.setIfInBounds_toArray, List.set_cons_zero, List.set_cons_succ]
                    refine oneT (i := 10) rfl (by kernel_rfl) (by rfl) (fun K hK => ?_)
                    go_simp
                    go_at_call 21
                    refine (told_any u yt _ ((TR.out.te HU.out).up HB.out.drew) ((TR.out.te HY.out).up HB.out.drew)).mono ?_
                    rintro e9 w9 ⟨rfl, b9⟩
                    rw [HE.out]
                    have HB9 := Lib.hid (HB.out.drew.trans (b9.mono HB.out.drew.size))
                    have HT9 : Hid ((fun (V' : World) => V'.cell? ⟨w.heap.size, 1, none⟩ = some (.slice (some ⟨b, off, none⟩) n' c') ∧ TlAt V' b (off + e * 6) u ∧ TlAt V' b (off + p * 6) yt) w9) := Lib.hid ⟨(cells2 (N0.out.under HB9.out)).2, CU.out _ HB9.out, CY.out _ HB9.out⟩
                    clear b9 HT
                    refine hK.out _ _ (fun _ => HT9.out) ?_
                    clear hK K HT9
                    refine doneT (by kernel_rfl) ?_ _
                    clear HB
                    have HB := HB9
                    clear HB9
                    clear HE
                    go_upto_region 45 with fail
                    have HB2 := HB
                    clear HB
                    by_cases hE : v.t = yt.t
                    ·
                      have HE := Lib.hid (show decide (v.t = yt.t) = true by rw [decide_eq_true_eq]; exact hE)
                      have Q2 := Lib.hid hE
                      clear hE
                      have HT : Hid ((fun (V' : World) => V'.cell? ⟨w.heap.size, 1, none⟩ = some (.slice (some ⟨b, off, none⟩) n' c') ∧ TlAt V' b6 (off6 + e * 6) v ∧ TlAt V' b (off + p * 6) yt) _) := Lib.hid (show (fun (V' : World) => V'.cell? ⟨w.heap.size, 1, none⟩ = some (.slice (some ⟨b, off, none⟩) n' c') ∧ TlAt V' b6 (off6 + e * 6) v ∧ TlAt V' b (off + p * 6) yt) _ from ⟨(cells2 (N0.out.under (HB2.out.drew))).2, CV.out _ HB2.out.drew, CY.out _ HB2.out.drew⟩)
                      refine wp_region_T (ls := []) (T := (fun (V' : World) => V'.cell? ⟨w.heap.size, 1, none⟩ = some (.slice (some ⟨b, off, none⟩) n' c') ∧ TlAt V' b6 (off6 + e * 6) v ∧ TlAt V' b (off + p * 6) yt)) (by kernel_rfl) ?_
                      refine takeT (i := 0) (v := ?_) rfl (by kernel_rfl) (by kernel_rfl) (by kernel_rfl) (by kernel_rfl) (fun _ _ _ h => h) (by rfl) ?_ HT.out ?_
                      rotate_left
                      · intro V' hV; obtain ⟨v0, ⟨a0, a1, a2, a3, a4, a5⟩, b0, b1, b2, b3, b4, b5⟩ := hV; go_simp <;> with_reducible rfl
                      simp only [Act.put, List.setIfInBounds_toArray, List.set_cons_zero, List.set_cons_succ]
                      refine takeT (i := 1) (v := ?_) rfl (by kernel_rfl) (by kernel_rfl) (by kernel_rfl) (by kernel_rfl) (fun _ _ _ h => h) (by rfl) ?_ HT.out ?_
                      rotate_left
                      · intro V' hV; obtain ⟨v0, ⟨a0, a1, a2, a3, a4, a5⟩, b0, b1, b2, b3, b4, b5⟩ := hV; go_simp <;> with_reducible rfl
                      simp only [Act.put, List.setIfInBounds_toArray, List.set_cons_zero, List.set_cons_succ]
                      refine takeT (i := 2) (v := ?_) rfl (by kernel_rfl) (by kernel_rfl) (by kernel_rfl) (by kernel_rfl) (fun _ _ _ h => h) (by rfl) ?_ HT.out ?_
                      rotate_left
                      · intro V' hV; obtain ⟨v0, ⟨a0, a1, a2, a3, a4, a5⟩, b0, b1, b2, b3, b4, b5⟩ := hV; go_simp <;> with_reducible rfl
                      simp only [Act.put, List.setIfInBounds_toArray, List.set_cons_zero, List.set_cons_succ]
                      refine takeT (i := 3) (v := ?_) rfl (by kernel_rfl) (by kernel_rfl) (by kernel_rfl) (by kernel_rfl) (fun _ _ _ h => h) (by rfl) ?_ HT.out ?_
                      rotate_left
                      · intro V' hV; obtain ⟨v0, ⟨a0, a1, a2, a3, a4, a5⟩, b0, b1, b2, b3, b4, b5⟩ := hV; go_simp <;> with_reducible rfl
                      simp only [Act.put, List.setIfInBounds_toArray, List.set_cons_zero, List.set_cons_succ]
                      refine takeT (i := 4) (v := ?_) rfl (by kernel_rfl) (by kernel_rfl) (by kernel_rfl) (by kernel_rfl) (fun _ _ _ h => h) (by rfl) ?_ HT.out ?_
                      rotate_left
                      · intro V' hV; obtain ⟨v0, ⟨a0, a1, a2, a3, a4, a5⟩, b0, b1, b2, b3, b4, b5⟩ := hV; go_simp <;> with_reducible rfl
                      simp only [Act.put, List.setIfInBounds_toArray, List.set_cons_zero, List.set_cons_succ]
                      refine takeT (i := 5) (v := ?_) rfl (by kernel_rfl) (by kernel_rfl) (by kernel_rfl) (by kernel_rfl) (fun _ _ _ h => h) (by rfl) ?_ HT.out ?_
                      rotate_left
                      · intro V' hV; obtain ⟨v0, ⟨a0, a1, a2, a3, a4, a5⟩, b0, b1, b2, b3, b4, b5⟩ := hV; go_simp <;> with_reducible rfl
                      simp only [Act.put, List.setIfInBounds_toArray, List.set_cons_zero, List.set_cons_succ]
                      refine takeT (i := 6) (v := ?_) rfl (by kernel_rfl) (by kernel_rfl) (by kernel_rfl) (by kernel_rfl) (fun _ _ _ h => h) (by rfl) ?_ HT.out ?_
                      rotate_left
                      · intro V' hV; obtain ⟨v0, ⟨a0, a1, a2, a3, a4, a5⟩, b0, b1, b2, b3, b4, b5⟩ := hV; go_simp <;> with_reducible rfl
                      simp only [Act.put, List.setIfInBounds_toArray, List.set_cons_zero, List.set_cons_succ]
                      refine takeT (i := 7) (v := ?_) rfl (by kernel_rfl) (by kernel_rfl) (by kernel_rfl) (by kernel_rfl) (fun _ _ _ h => h) (by rfl) ?_ HT.out ?_
                      rotate_left
                      · intro V' hV; obtain ⟨v0, ⟨a0, a1, a2, a3, a4, a5⟩, b0, b1, b2, b3, b4, b5⟩ := hV; go_simp <;> with_reducible rfl
                      simp only [Act.put, List.setIfInBounds_toArray, List.set_cons_zero, List.set_cons_succ]
                      refine takeT (i := 8) (v := ?_) rfl (by kernel_rfl) (by kernel_rfl) (by kernel_rfl) (by kernel_rfl) (fun _ _ _ h => h) (by rfl) ?_ HT.out ?_
                      rotate_left
                      · intro V' hV; obtain ⟨v0, ⟨a0, a1, a2, a3, a4, a5⟩, b0, b1, b2, b3, b4, b5⟩ := hV; go_simp <;> with_reducible rfl
                      simp only [Act.put, List.setIfInBounds_toArray, List.set_cons_zero, List.set_cons_succ]
                      refine oneT (i := 9) rfl (by kernel_rfl) (by rfl) (fun K hK => ?_)
                      go_simp
                      go_at_call 21
                      refine (told_any v yt _ ((TO.out.te HV.out).up HB2.out.drew) ((TR.out.te HY.out).up HB2.out.drew)).mono ?_
                      rintro e9 w9 ⟨rfl, b9⟩
                      rw [HE.out]
                      have HB9 := Lib.hid (HB2.out.drew.trans (b9.mono HB2.out.drew.size))
                      have HT9 : Hid ((fun (V' : World) => V'.cell? ⟨w.heap.size, 1, none⟩ = some (.slice (some ⟨b, off, none⟩) n' c') ∧ TlAt V' b6 (off6 + e * 6) v ∧ TlAt V' b (off + p * 6) yt) w9) := Lib.hid ⟨(cells2 (N0.out.under HB9.out)).2, CV.out _ HB9.out, CY.out _ HB9.out⟩
                      clear b9 HT
                      refine hK.out _ _ (fun _ => HT9.out) ?_
                      clear hK K HT9
                      refine doneT (by kernel_rfl) ?_ _
                      clear HB2
                      have HB2 := HB9
                      clear HB9
                      go_wp2_with fail
                      go_roundw
                      case rel => exact ⟨e + 1, X - 1, by go_num, by have := HLT.out; omega, rfl, by have h1 := K1.out; have h2 := K2.out; have h3 := HX.out; rw [if_neg (by rw [← HYT.out]; exact Q1.out)] at h1; rw [if_pos (by rw [← HYT.out]; exact Q2.out)] at h2; omega, HB2.out⟩
                      case measure => have := HLT.out; simp [intOf]; omega
                    ·
                      have HE := Lib.hid (show decide (v.t = yt.t) = false by rw [decide_eq_false_iff_not]; exact hE)
                      have Q2 := Lib.hid hE
                      clear hE
                      have HT : Hid ((fun (V' : World) => V'.cell? ⟨w.heap.size, 1, none⟩ = some (.slice (some ⟨b, off, none⟩) n' c') ∧ TlAt V' b6 (off6 + e * 6) v ∧ TlAt V' b (off + p * 6) yt) _) := Lib.hid (show (fun (V' : World) => V'.cell? ⟨w.heap.size, 1, none⟩ = some (.slice (some ⟨b, off, none⟩) n' c') ∧ TlAt V' b6 (off6 + e * 6) v ∧ TlAt V' b (off + p * 6) yt) _ from ⟨(cells2 (N0.out.under (HB2.out.drew))).2, CV.out _ HB2.out.drew, CY.out _ HB2.out.drew⟩)
                      refine wp_region_T (ls := []) (T := (fun (V' : World) => V'.cell? ⟨w.heap.size, 1, none⟩ = some (.slice (some ⟨b, off, none⟩) n' c') ∧ TlAt V' b6 (off6 + e * 6) v ∧ TlAt V' b (off + p * 6) yt)) (by kernel_rfl) ?_
                      refine takeT (i := 0) (v := ?_) rfl (by kernel_rfl) (by kernel_rfl) (by kernel_rfl) (by kernel_rfl) (fun _ _ _ h => h) (by rfl) ?_ HT.out ?_
                      rotate_left
                      · intro V' hV; obtain ⟨v0, ⟨a0, a1, a2, a3, a4, a5⟩, b0, b1, b2, b3, b4, b5⟩ := hV; go_simp <;> with_reducible rfl
                      simp only [Act.put, List.setIfInBounds_toArray, List.set_cons_zero, List.set_cons_succ]
                      refine takeT (i := 1) (v := ?_) rfl (by kernel_rfl) (by kernel_rfl) (by kernel_rfl) (by kernel_rfl) (fun _ _ _ h => h) (by rfl) ?_ HT.out ?_
                      rotate_left
                      · intro V' hV; obtain ⟨v0, ⟨a0, a1, a2, a3, a4, a5⟩, b0, b1, b2, b3, b4, b5⟩ := hV; go_simp <;> with_reducible rfl
                      simp only [Act.put, List.setIfInBounds_toArray, List.set_cons_zero, List.set_cons_succ]
                      refine takeT (i := 2) (v := ?_) rfl (by kernel_rfl) (by kernel_rfl) (by kernel_rfl) (by kernel_rfl) (fun _ _ _ h => h) (by rfl) ?_ HT.out ?_
                      rotate_left
                      · intro V' hV; obtain ⟨v0, ⟨a0, a1, a2, a3, a4, a5⟩, b0, b1, b2, b3, b4, b5⟩ := hV; go_simp <;> with_reducible rfl
                      simp only [Act.put, List.setIfInBounds_toArray, List.set_cons_zero, List.set_cons_succ]
                      refine takeT (i := 3) (v := ?_) rfl (by kernel_rfl) (by kernel_rfl) (by kernel_rfl) (by kernel_rfl) (fun _ _ _ h => h) (by rfl) ?_ HT.out ?_
                      rotate_left
                      · intro V' hV; obtain ⟨v0, ⟨a0, a1, a2, a3, a4, a5⟩, b0, b1, b2, b3, b4, b5⟩ := hV; go_simp <;> with_reducible rfl
                      simp only [Act.put, List.setIfInBounds_toArray, List.set_cons_zero, List.set_cons_succ]
                      refine takeT (i := 4) (v := ?_) rfl (by kernel_rfl) (by kernel_rfl) (by kernel_rfl) (by kernel_rfl) (fun _ _ _ h => h) (by rfl) ?_ HT.out ?_
                      rotate_left
                      · intro V' hV; obtain ⟨v0, ⟨a0, a1, a2, a3, a4, a5⟩, b0, b1, b2, b3, b4, b5⟩ := hV; go_simp <;> with_reducible rfl
                      simp only [Act.put, List.setIfInBounds_toArray, List.set_cons_zero, List.set_cons_succ]
                      refine takeT (i := 5) (v := ?_) rfl (by kernel_rfl) (by kernel_rfl) (by kernel_rfl) (by kernel_rfl) (fun _ _ _ h => h) (by rfl) ?_ HT.out ?_
                      rotate_left
                      · intro V' hV; obtain ⟨v0, ⟨a0, a1, a2, a3, a4, a5⟩, b0, b1, b2, b3, b4, b5⟩ := hV; go_simp <;> with_reducible rfl
                      simp only [Act.put, List.setIfInBounds_toArray, List.set_cons_zero, List.set_cons_succ]
                      refine takeT (i := 6) (v := ?_) rfl (by kernel_rfl) (by kernel_rfl) (by kernel_rfl) (by kernel_rfl) (fun _ _ _ h => h) (by rfl) ?_ HT.out ?_
                      rotate_left
                      · intro V' hV; obtain ⟨v0, ⟨a0, a1, a2, a3, a4, a5⟩, b0, b1, b2, b3, b4, b5⟩ := hV; go_simp <;> with_reducible rfl
                      simp only [Act.put, List.setIfInBounds_toArray, List.set_cons_zero, List.set_cons_succ]
                      refine takeT (i := 7) (v := ?_) rfl (by kernel_rfl) (by kernel_rfl) (by kernel_rfl) (by kernel_rfl) (fun _ _ _ h => h) (by rfl) ?_ HT.out ?_
                      rotate_left
                      · intro V' hV; obtain ⟨v0, ⟨a0, a1, a2, a3, a4, a5⟩, b0, b1, b2, b3, b4, b5⟩ := hV; go_simp <;> with_reducible rfl
                      simp only [Act.put, List.setIfInBounds_toArray, List.set_cons_zero, List.set_cons_succ]
                      refine takeT (i := 8) (v := ?_) rfl (by kernel_rfl) (by kernel_rfl) (by kernel_rfl) (by kernel_rfl) (fun _ _ _ h => h) (by rfl) ?_ HT.out ?_
                      rotate_left
                      · intro V' hV; obtain ⟨v0, ⟨a0, a1, a2, a3, a4, a5⟩, b0, b1, b2, b3, b4, b5⟩ := hV; go_simp <;> with_reducible rfl
                      simp only [Act.put, List.setIfInBounds_toArray, List.set_cons_zero, List.set_cons_succ]
                      refine oneT (i := 9) rfl (by kernel_rfl) (by rfl) (fun K hK => ?_)
                      go_simp
                      go_at_call 21
                      refine (told_any v yt _ ((TO.out.te HV.out).up HB2.out.drew) ((TR.out.te HY.out).up HB2.out.drew)).mono ?_
                      rintro e9 w9 ⟨rfl, b9⟩
                      rw [HE.out]
                      have HB9 := Lib.hid (HB2.out.drew.trans (b9.mono HB2.out.drew.size))
                      have HT9 : Hid ((fun (V' : World) => V'.cell? ⟨w.heap.size, 1, none⟩ = some (.slice (some ⟨b, off, none⟩) n' c') ∧ TlAt V' b6 (off6 + e * 6) v ∧ TlAt V' b (off + p * 6) yt) w9) := Lib.hid ⟨(cells2 (N0.out.under HB9.out)).2, CV.out _ HB9.out, CY.out _ HB9.out⟩
                      clear b9 HT
                      refine hK.out _ _ (fun _ => HT9.out) ?_
                      clear hK K HT9
                      refine doneT (by kernel_rfl) ?_ _
                      clear HB2
                      have HB2 := HB9
                      clear HB9
                      go_wp2_with fail
                      go_roundw
                      case rel => exact ⟨e + 1, X, by go_num, by have := HLT.out; omega, rfl, by have h1 := K1.out; have h2 := K2.out; have h3 := HX.out; rw [if_neg (by rw [← HYT.out]; exact Q1.out)] at h1; rw [if_neg (by rw [← HYT.out]; exact Q2.out)] at h2; omega, HB2.out⟩
                      case measure => have := HLT.out; simp [intOf]; omega
                ·
                  have hX0 : X = 0 := by
                    rw [hX, cntF_all (by rw [LT.out]; omega), cntF_all (by rw [TL.out]; omega), D6.out y]
                    omega
                  subst hX0
                  have de : decide ((e : Int) < (n' : Int)) = false := by rw [decide_eq_false_iff_not]; omega
                  obtain ⟨x0, x1⟩ := cells2 (N0.out.under hb)
                  have HB := Lib.hid hb
                  clear hb hX he
                  go_wp2_with fail
                  go_roundw
                  case rel => exact ⟨p + 1, by go_num, by have := HP.out; omega, HB.out⟩
                  case measure => have := HP.out; simp [intOf]; omega
            ·
              have dp : decide ((p : Int) < (n' : Int)) = false := by rw [decide_eq_false_iff_not]; omega
              obtain ⟨x0, x1⟩ := cells2 (N0.out.under hb)
              have HB := Lib.hid hb
              clear hb hp
              go_wp2_with fail
              clear x0 x1 dp
              refine Calls.mono (wakesN_any _) ?_
              rintro e y2 ⟨rfl, b⟩
              have HF := Lib.hid (HB.out.trans (b.mono HB.out.size))
              clear b
              go_wp2_with fail
              go_ret
              exact ⟨rfl, BB.out.trans (HF.out.mono BB.out.size)⟩

theorem netOnce_any (A : Option Addr) (n c : Nat) (A' : Option Addr) (n' c' : Nat) (s : Nt) (Al : Option Addr) (nl cl : Nat) (l : List Int) (w : World) (hr : NtIn w A n A' n' s) (hl : Rd w w.heap.size Al nl (iv l)) :
    Calls Try.prog 4 #[.agg #[.slice A n c, .slice A' n' c'], .slice Al nl cl] w (TruePost w) := by
  cases hg : greatN s with
  | true => exact once_great A n c A' n' c' s Al nl cl l w hr hl hg
  | false => exact once_on A n c A' n' c' s Al nl cl l w hr hl hg

end Go.Proofs.Ytcbbjloojngoiaa
