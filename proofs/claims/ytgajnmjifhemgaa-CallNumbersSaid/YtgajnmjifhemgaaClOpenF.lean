/-
  The walks of 'Begin' and 'Open' of package call. Conditions: those that each theorem names.
-/
import Derived.Test.YtgajnmjifhemgaaClClose
import Derived.Test.YtgajnmjifhemgaaRegT
namespace Go.Proofs.Ytgajnmjifhemgaa
open Go.RowKit Go.Shelf

theorem rightC_begin (ep : Int) : rightC ⟨ep, 1, []⟩ = beginB ep := by simp [rightC, headB, beginB, okToC]

set_option maxRecDepth 100000 in
set_option maxHeartbeats 1000000 in
theorem begin_any (ep : Int) (w : World) : Calls Try.prog 14 #[.int .i64 ep] w (CsPost2 (beginC ep) (.int .i64 (beginE ep)) w) := by
  obtain ⟨hb, w0, w1⟩ := two_new w 24 24 #[.int .i64 0, .int .i64 0, .slice none 0 0] #[.int .i64 ep, .int .i64 1, .slice none 0 0]
  obtain ⟨V, hV⟩ : ∃ V, (w.alloc (.cells #[.int .i64 0, .int .i64 0, .slice none 0 0] 24)).alloc (.cells #[.int .i64 ep, .int .i64 1, .slice none 0 0] 24) = V := ⟨_, rfl⟩
  rw [hV] at hb w0 w1
  obtain ⟨c0, c1, c2⟩ := cells3 w1
  have HR := Lib.hid (rightc_any ⟨ep, 1, []⟩ none 0 0 0 V (RdF.nil_ _ _ _) (Nat.zero_le _) (by omega))
  rw [rightC_begin] at HR
  have HB := Lib.hid hb
  have HV := Lib.hid hV
  have W0 := Lib.hid w0
  have W1 := Lib.hid w1
  clear hb w0 w1 hV
  go_enter Try.func14, Try.ntmps14
  go_upto_region 2 with fail
  rw [HV.out]
  clear HV
  go_wp2_with fail
  refine HR.out.mono ?_
  rintro e w2 ⟨rfl, hb2⟩
  have u0 := W0.out.under hb2
  have u1 := W1.out.under hb2
  have HB2 := Lib.hid (HB.out.trans (hb2.mono HB.out.size))
  have U0 := Lib.hid u0
  obtain ⟨r0, r1, r2⟩ := cells3 u0
  have z0 := u0.frozen 0
  have z1 := u0.frozen 1
  have z2 := u0.frozen 2
  clear c0 c1 c2
  obtain ⟨c0, c1, c2⟩ := cells3 u1
  clear u0 u1 hb2
  cases hbg : beginB ep with
  | true =>
    have e1 : beginC ep = ⟨ep, 1, []⟩ := by simp [beginC, hbg]
    have e2 : beginE ep = 0 := by simp [beginE, hbg]
    have E1 := Lib.hid e1
    have E2 := Lib.hid e2
    clear e1 e2
    go_wp2_with fail
    obtain ⟨e4, k4⟩ := put3 U0.out (.int .i64 ep) (.int .i64 1) (.slice none 0 0)
    obtain ⟨y0, y1, y2⟩ := cells3 e4
    exact bodyPost_ret (v := .tuple #[.agg #[.int .i64 ep, .int .i64 1, .slice none 0 0], .int .i64 0]) (by simp [results, Try.results14, go_sem, y0, y1, y2]) rfl (by rw [E1.out, E2.out]; exact ⟨none, 0, rfl, CallsAt.nil_ _ _, k4.bel HB2.out (Nat.le_refl _)⟩)
  | false =>
    have e1 : beginC ep = ⟨0, 0, []⟩ := by simp [beginC, hbg]
    have e2 : beginE ep = 2 := by simp [beginE, hbg]
    have E1 := Lib.hid e1
    have E2 := Lib.hid e2
    clear e1 e2
    go_wp2_with fail
    obtain ⟨e4, k4⟩ := put3 U0.out (.int .i64 0) (.int .i64 0) (.slice none 0 0)
    obtain ⟨y0, y1, y2⟩ := cells3 e4
    exact bodyPost_ret (v := .tuple #[.agg #[.int .i64 0, .int .i64 0, .slice none 0 0], .int .i64 2]) (by simp [results, Try.results14, go_sem, y0, y1, y2]) rfl (by rw [E1.out, E2.out]; exact ⟨none, 0, rfl, CallsAt.nil_ _ _, k4.bel HB2.out (Nat.le_refl _)⟩)

set_option maxRecDepth 100000 in
set_option maxHeartbeats 1000000 in
/-- Whether a call may be beside those that are open, told by 'may'. -/
theorem mayOpen_any (c : Cs) (x : Cl) (A : Option Addr) (n k : Nat) (p q : Nat) (W : World) (hr : RdC W W.heap.size A n c.l) (hn : n ≤ 1000) (hp : Whole W p 24 #[.int .i64 c.ep, .int .i64 c.nx, .slice A n k]) (hq : Whole W q 31 #[.int .i64 x.id, .int .u8 x.kind, .int .i64 x.key, .int .i64 x.sent]) :
    Calls Try.prog 27 #[.func (.func 28) #[] #[.pointer (some ⟨p, 0, none⟩), .pointer (some ⟨q, 0, none⟩)]] W (BoolPost (rightC c && (oneB x && !hasC c x.kind x.key)) W) := by
  obtain ⟨V2, hV2⟩ : ∃ V2, W.alloc (.cells #[.bool false] 4) = V2 := ⟨_, rfl⟩
  have hb2 : Below W.heap.size W V2 := by rw [← hV2]; exact (Below.refl _ _).alloc (Nat.le_refl _) _
  have hL := oneMore_any c x A n k W.heap.size V2 (hr.below hb2) hb2.size hn
  obtain ⟨c0, c1, c2⟩ := cells3 (hp.under hb2)
  obtain ⟨x0, x1, x2, x3⟩ := cells4 (hq.under hb2)
  refine may_any 28 #[.pointer (some ⟨p, 0, none⟩), .pointer (some ⟨q, 0, none⟩)] _ W (enters_of Try.func28 (by kernel_rfl) rfl) ?_
  rw [hV2]
  have HL := Lib.hid hL
  clear hL hV2 hb2 hr hn hp hq
  generalize (rightC c && (oneB x && !hasC c x.kind x.key)) = L at *
  go_enter Try.func28, Try.ntmps28
  go_wp2_with fail
  refine HL.out.mono ?_
  rintro e w1 ⟨hb1, ⟨h, rfl⟩ | ⟨h, rfl⟩⟩
  · go_wp2_with fail
    go_end0
    exact ⟨hb1, .inl ⟨by first | exact h | rfl, rfl⟩⟩
  · go_wp2_with fail
    exact ⟨rfl, hb1, .inr ⟨by first | exact h | rfl, rfl⟩⟩

set_option maxRecDepth 100000 in
set_option maxHeartbeats 2000000 in
theorem open_any (c : Cs) (A : Option Addr) (n k : Nat) (kind key now : Int) (B : Nat) (w : World) (hr : RdC w B A n c.l) (hB : B ≤ w.heap.size) (hn : n ≤ 1000) :
    Calls Try.prog 10 #[.agg #[.int .i64 c.ep, .int .i64 c.nx, .slice A n k], .int .u8 kind, .int .i64 key, .int .i64 now] w (CsPost3 (openC c kind key now) (.int .i64 (openI c kind key now)) (.int .i64 (openE c kind key now)) w) := by
  have hmf : ∀ (fn : Fn) (first cap : Array Value) (w : World), (Instr.makeFunc fn first cap).run Try.prog w = .ok (.func fn first cap) w := fun _ _ _ _ => rfl
  obtain ⟨hb, w0, w1, w2⟩ := three_new w 24 24 31 #[.int .i64 c.ep, .int .i64 c.nx, .slice A n k] #[.int .i64 0, .int .i64 0, .slice none 0 0] #[.int .i64 0, .int .u8 kind, .int .i64 key, .int .i64 now]
  obtain ⟨V, hV⟩ : ∃ V, ((w.alloc (.cells #[.int .i64 c.ep, .int .i64 c.nx, .slice A n k] 24)).alloc (.cells #[.int .i64 0, .int .i64 0, .slice none 0 0] 24)).alloc (.cells #[.int .i64 0, .int .u8 kind, .int .i64 key, .int .i64 now] 31) = V := ⟨_, rfl⟩
  have hs : V.heap.size = w.heap.size + 1 + 1 + 1 := by rw [← hV]; simp
  rw [hV] at hb w0 w1 w2
  obtain ⟨c0, c1, c2⟩ := cells3 w0
  have y0 := w0.frozen 0
  have y1 := w0.frozen 1
  have y2 := w0.frozen 2
  have hl := hr.len
  have HO := Lib.hid (own_anyC c A n k B V (hr.below (hb.mono hB)) (Nat.le_trans hB hb.size) hn)
  have HLn := Lib.hid (show c.l.length ≤ 1000 by omega)
  have HB := Lib.hid hb
  have HV := Lib.hid hV
  have HS := Lib.hid hs
  have W0 := Lib.hid w0
  have W1 := Lib.hid w1
  have W2 := Lib.hid w2
  clear hb w0 w1 w2 hr hB hn hV hs hl
  go_enter Try.func10, Try.ntmps10
  go_upto_region 2 with fail
  rw [HV.out]
  clear HV
  go_wp2_with fail
  refine HO.out.mono ?_
  rintro e w3 ⟨A2, k2, rfl, ho, hb3⟩
  have u0 := W0.out.under hb3
  have HB3 := Lib.hid (HB.out.trans (hb3.mono HB.out.size))
  clear c0 c1 c2 y0 y1 y2
  obtain ⟨c0, c1, c2⟩ := cells3 u0
  have y0 := u0.frozen 0
  have y1 := u0.frozen 1
  have y2 := u0.frozen 2
  obtain ⟨e4, k4⟩ := put3 u0 (.int .i64 c.ep) (.int .i64 c.nx) (.slice A2 c.l.length k2)
  obtain ⟨w4, hw4⟩ : ∃ w4, ((w3.setCell ⟨w.heap.size, 0, none⟩ (.int .i64 c.ep)).setCell ⟨w.heap.size, 1, none⟩ (.int .i64 c.nx)).setCell ⟨w.heap.size, 2, none⟩ (.slice A2 c.l.length k2) = w4 := ⟨_, rfl⟩
  rw [hw4] at e4 k4
  have O4 := Lib.hid (ho.only k4 u0 (by decide))
  have X4 := Lib.hid (k4.far (W2.out.under hb3) (by omega))
  have R4 := Lib.hid (k4.far (W1.out.under hb3) (by omega))
  have B4 := Lib.hid (k4.bel HB3.out (Nat.le_refl _))
  have E4 := Lib.hid e4
  have S4 := Lib.hid (show w.heap.size + 1 + 1 + 1 ≤ w4.heap.size by rw [k4.size, ← HS.out]; exact hb3.size)
  have HMay := Lib.hid (mayOpen_any c ⟨0, kind, key, now⟩ A2 c.l.length k2 w.heap.size (w.heap.size + 1 + 1) w4 O4.out.read HLn.out e4 X4.out)
  have HW4 := Lib.hid hw4
  clear u0 ho hb3 e4 k4 hw4 HO W0 W1 W2 HB3
  go_upto_region 3 with fail
  rw [HW4.out]
  clear HW4 c0 c1 c2 y0 y1 y2
  have hob : (rightC c && (oneB ⟨0, kind, key, now⟩ && !hasC c kind key)) = openB c kind key now := rfl
  go_wp2_with fail
  refine HMay.out.mono ?_
  rintro e w5 ⟨rfl, hb5⟩
  have u0 := E4.out.under hb5
  have u1 := R4.out.under hb5
  have u2 := X4.out.under hb5
  have O5 := Lib.hid (O4.out.under hb5)
  have B5 := Lib.hid (B4.out.trans (hb5.mono B4.out.size))
  have S5 := Lib.hid (Nat.le_trans S4.out hb5.size)
  have U0 := Lib.hid u0
  have U1 := Lib.hid u1
  have U2 := Lib.hid u2
  obtain ⟨c0, c1, c2⟩ := cells3 u0
  obtain ⟨r0, r1, r2⟩ := cells3 u1
  have z0 := u1.frozen 0
  have z1 := u1.frozen 1
  have z2 := u1.frozen 2
  clear u0 u1 u2 hb5 HMay E4 R4 X4 O4 B4 S4
  obtain ⟨b, hbb⟩ : ∃ b, openB c kind key now = b := ⟨_, rfl⟩
  rw [hob, hbb]
  clear hob
  cases b with
  | false =>
    have e1 : openC c kind key now = c := by simp [openC, hbb]
    have e2 : openI c kind key now = 0 := by simp [openI, hbb]
    have e3 : openE c kind key now = 2 := by simp [openE, hbb]
    have E1 := Lib.hid e1
    have E2 := Lib.hid e2
    have E3 := Lib.hid e3
    clear e1 e2 e3 hbb
    go_wp2_with fail
    obtain ⟨e6, k6⟩ := put3 U1.out (.int .i64 c.ep) (.int .i64 c.nx) (.slice A2 c.l.length k2)
    obtain ⟨y0, y1, y2⟩ := cells3 e6
    exact bodyPost_ret (v := .tuple #[.agg #[.int .i64 c.ep, .int .i64 c.nx, .slice A2 c.l.length k2], .int .i64 0, .int .i64 2]) (by simp [results, Try.results10, go_sem, y0, y1, y2]) rfl (by rw [E1.out, E2.out, E3.out]; exact ⟨A2, k2, rfl, CallsAt.weaker (base := w.heap.size) (base' := V.heap.size) (O5.out.only k6 U1.out (by decide)) (by have := HS.out; omega), k6.bel B5.out (by omega)⟩)
  | true =>
    by_cases hx : c.nx = 1048576
    · have e1 : openC c kind key now = c := by simp [openC, hbb, hx]
      have e2 : openI c kind key now = 0 := by simp [openI, hbb, hx]
      have e3 : openE c kind key now = 241 := by simp [openE, hbb, hx]
      have E1 := Lib.hid e1
      have E2 := Lib.hid e2
      have E3 := Lib.hid e3
      have q1 : (c.nx == (1048576 : Int)) = true := by simp [hx]
      clear e1 e2 e3 hbb hx
      go_wp2_with fail
      obtain ⟨e6, k6⟩ := put3 U1.out (.int .i64 c.ep) (.int .i64 c.nx) (.slice A2 c.l.length k2)
      obtain ⟨y0, y1, y2⟩ := cells3 e6
      exact bodyPost_ret (v := .tuple #[.agg #[.int .i64 c.ep, .int .i64 c.nx, .slice A2 c.l.length k2], .int .i64 0, .int .i64 241]) (by simp [results, Try.results10, go_sem, y0, y1, y2]) rfl (by rw [E1.out, E2.out, E3.out]; exact ⟨A2, k2, rfl, CallsAt.weaker (base := w.heap.size) (base' := V.heap.size) (O5.out.only k6 U1.out (by decide)) (by have := HS.out; omega), k6.bel B5.out (by omega)⟩)
    · have e1 : openC c kind key now = moreC c kind key now := by simp [openC, hbb, hx]
      have e2 : openI c kind key now = c.ep * 1048576 + c.nx := by simp [openI, hbb, hx]
      have e3 : openE c kind key now = 0 := by simp [openE, hbb, hx]
      have E1 := Lib.hid e1
      have E2 := Lib.hid e2
      have E3 := Lib.hid e3
      have q1 : (c.nx == (1048576 : Int)) = false := by simp [hx]
      have hright := (openB_iff.1 hbb).1
      have hel := hright.el
      have heh := hright.eh
      have hnl := hright.nl
      have hnh := hright.nh
      have HWr := Lib.hid (wrapI_mid (n := c.ep * 1048576 + c.nx) (by omega) (by omega))
      have HWn := Lib.hid (wrapI_mid (n := c.nx + 1) (by omega) (by omega))
      have HBs := Lib.hid (fun W => base_any c.ep c.nx A2 c.l.length k2 hel heh W)
      clear e1 e2 e3 hbb hx hright hel heh hnl hnh
      go_wp2_with fail
      have HT0 : Hid ((fun V' => Whole V' w.heap.size 24 #[.int .i64 c.ep, .int .i64 c.nx, .slice A2 c.l.length k2]) w5.drew) := Lib.hid U0.out
      have HLL : Hid (∀ V', (fun V' => Whole V' w.heap.size 24 #[.int .i64 c.ep, .int .i64 c.nx, .slice A2 c.l.length k2]) V' → V'.cell? ⟨w.heap.size, 0, none⟩ = some (.int .i64 c.ep) ∧ V'.cell? ⟨w.heap.size, 1, none⟩ = some (.int .i64 c.nx) ∧ V'.cell? ⟨w.heap.size, 2, none⟩ = some (.slice A2 c.l.length k2)) := Lib.hid (fun V' h => cells3 h)
      have e5 := U2.out.frozen 0
      refine wp_region_T (ls := []) (T := (fun V' => Whole V' w.heap.size 24 #[.int .i64 c.ep, .int .i64 c.nx, .slice A2 c.l.length k2])) (by kernel_rfl) ?_
      refine takeT (i := 0) (v := ?_) rfl (by kernel_rfl) (by kernel_rfl) (by kernel_rfl) (by kernel_rfl) (fun _ _ _ h => h) (by rfl) ?_ HT0.out ?_
      rotate_left
      · intro V' hV; obtain ⟨y0, y1, y2⟩ := HLL.out V' hV; go_simp <;> with_reducible rfl
      simp only [Act.put, List.setIfInBounds_toArray, List.set_cons_zero, List.set_cons_succ]
      refine takeT (i := 2) (v := ?_) rfl (by kernel_rfl) (by kernel_rfl) (by kernel_rfl) (by kernel_rfl) (fun _ _ _ h => h) (by rfl) ?_ HT0.out ?_
      rotate_left
      · intro V' hV; obtain ⟨y0, y1, y2⟩ := HLL.out V' hV; go_simp <;> with_reducible rfl
      simp only [Act.put, List.setIfInBounds_toArray, List.set_cons_zero, List.set_cons_succ]
      refine takeT (i := 3) (v := ?_) rfl (by kernel_rfl) (by kernel_rfl) (by kernel_rfl) (by kernel_rfl) (fun _ _ _ h => h) (by rfl) ?_ HT0.out ?_
      rotate_left
      · intro V' hV; obtain ⟨y0, y1, y2⟩ := HLL.out V' hV; go_simp <;> with_reducible rfl
      simp only [Act.put, List.setIfInBounds_toArray, List.set_cons_zero, List.set_cons_succ]
      refine oneT (i := 1) rfl (by kernel_rfl) (by rfl) (fun K hK => ?_)
      go_simp
      go_at_call 30
      refine (HBs.out _).mono ?_
      rintro e w6 ⟨rfl, hw6⟩
      have hb6 : Below w5.drew.heap.size w5.drew w6 := by rw [hw6]; exact (Below.refl _ _).alloc (Nat.le_refl _) _
      have HT1 : Hid ((fun V' => Whole V' w.heap.size 24 #[.int .i64 c.ep, .int .i64 c.nx, .slice A2 c.l.length k2]) w6) := Lib.hid (HT0.out.under hb6)
      refine hK.out _ _ (fun _ => HT1.out) ?_
      clear hK K
      have U2' := Lib.hid ((U2.out.under (Below.refl _ _).drew).under hb6)
      have U1' := Lib.hid ((U1.out.under (Below.refl _ _).drew).under hb6)
      have O6 := Lib.hid ((O5.out.under (Below.refl _ _).drew).under hb6)
      have B6 := Lib.hid ((B5.out.trans ((Below.refl w5.heap.size w5).drew.mono B5.out.size)).trans (hb6.mono (by have := B5.out.size; simpa using this)))
      have S6 := Lib.hid (show w.heap.size + 1 + 1 + 1 ≤ w6.heap.size by have h1 := S5.out; have := hb6.size; simp only [World.size_drew] at this; omega)
      clear hw6 hb6 e5 c0 c1 c2 r0 r1 r2 z0 z1 z2 q1
      have hwr := HWr.out
      refine takeP (i := 4) (v := .int .i64 (c.ep * 1048576 + c.nx)) rfl (by kernel_rfl) (by kernel_rfl) (by kernel_rfl) (by kernel_rfl) (fun _ _ _ h => h) (by rfl) ?_ (fun _ => HT1.out) ?_
      · intro V'; go_simp <;> with_reducible rfl
      simp only [Act.put, List.setIfInBounds_toArray, List.set_cons_zero, List.set_cons_succ]
      refine takeP (i := 5) (v := ?_) rfl (by kernel_rfl) (by kernel_rfl) (by kernel_rfl) (by kernel_rfl) (fun _ _ _ h => h) (by rfl) ?_ (fun _ => HT1.out) ?_
      rotate_left
      · intro V'; go_simp <;> with_reducible rfl
      simp only [Act.put, List.setIfInBounds_toArray, List.set_cons_zero, List.set_cons_succ]
      have c0 := U2'.out.cell 0
      have y0 := U2'.out.frozen 0
      refine oneT (i := 6) rfl (by kernel_rfl) (by rfl) (fun K hK => ?_)
      go_simp
      have ko := Only.set w6 (w.heap.size + 1 + 1) 0 (.int .i64 (c.ep * 1048576 + c.nx))
      refine hK.out _ _ (fun _ => ko.far HT1.out (by omega)) ?_
      clear hK K
      refine doneT (by kernel_rfl) ?_ _
      have hx7 := U2'.out.set 0 (.int .i64 (c.ep * 1048576 + c.nx))
      simp only [List.setIfInBounds_toArray, List.set_cons_zero] at hx7
      have hc7 := ko.far HT1.out (by omega)
      have hr7 := ko.far U1'.out (by omega)
      have ho7 := Only.ownB ko O6.out (by have := HS.out; omega)
      have hb7 := ko.bel B6.out (by omega)
      have hs7 : V.heap.size ≤ (w6.setCell ⟨w.heap.size + 1 + 1, 0, none⟩ (.int .i64 (c.ep * 1048576 + c.nx))).heap.size := by rw [ko.size, HS.out]; exact S6.out
      obtain ⟨Y, hY⟩ : ∃ Y, w6.setCell ⟨w.heap.size + 1 + 1, 0, none⟩ (.int .i64 (c.ep * 1048576 + c.nx)) = Y := ⟨_, rfl⟩
      refine q_at (fun Y' hY' => ?_)
      obtain rfl : Y = Y' := hY.symm.trans hY'
      rw [hY] at hx7 hc7 hr7 ho7 hb7 hs7
      clear hY hY' ko c0 y0 hwr
      obtain ⟨A3, k3, W7, hrun, ho8, hb8, _, _, _⟩ := calls_put Y V.heap.size _ _ ho7 ⟨c.ep * 1048576 + c.nx, kind, key, now⟩ HLn.out hs7
      have hc8 : Whole W7 w.heap.size 24 #[.int .i64 c.ep, .int .i64 c.nx, .slice A2 c.l.length k2] := hc7.below hb8 (by have := HS.out; omega)
      have HX8 := Lib.hid (show Whole W7 (w.heap.size + 1 + 1) 31 #[.int .i64 (c.ep * 1048576 + c.nx), .int .u8 kind, .int .i64 key, .int .i64 now] from hx7.below hb8 (by have := HS.out; omega))
      have HR8 := Lib.hid (show Whole W7 (w.heap.size + 1) 24 #[.int .i64 0, .int .i64 0, .slice none 0 0] from hr7.below hb8 (by have := HS.out; omega))
      have HB8 := Lib.hid (hb7.trans (hb8.mono (by have := HS.out; omega)))
      have HO8 := Lib.hid ho8
      have HRun := Lib.hid hrun
      have HC8 := Lib.hid hc8
      obtain ⟨c0, c1, c2⟩ := cells3 hc7
      obtain ⟨x0, x1, x2, x3⟩ := cells4 hx7
      obtain ⟨d0, d1, d2⟩ := cells3 hc8
      have y1 := hc8.frozen 1
      have y2 := hc8.frozen 2
      have hwn := HWn.out
      clear hx7 hc7 hr7 ho7 hb7 hs7 hrun ho8 hb8 hc8
      go_wp2_with (at_builtin; refine wpList_app (by rfl) _ _ 22 rfl _ _ _ W7 (by rfl) (by rfl) HRun.out ?_)
      have h2 := HC8.out.set 2 (.slice A3 (c.l.length + 1) k3)
      simp only [List.setIfInBounds_toArray, List.set_cons_zero, List.set_cons_succ] at h2
      have k2' := Only.set W7 w.heap.size 2 (.slice A3 (c.l.length + 1) k3)
      have h3 := h2.set 1 (.int .i64 (c.nx + 1))
      simp only [List.setIfInBounds_toArray, List.set_cons_zero, List.set_cons_succ] at h3
      have k3' := k2'.trans (Only.set _ w.heap.size 1 (.int .i64 (c.nx + 1)))
      have hx9 := k3'.far HX8.out (by omega)
      have hr9 := k3'.far HR8.out (by omega)
      have ho9 := HO8.out.only k3' HC8.out (by decide)
      have hb9 := k3'.bel HB8.out (Nat.le_refl _)
      refine wp_at (fun Z hZ => ?_)
      rw [hZ] at h3 hx9 hr9 ho9 hb9
      clear hZ k2' k3' h2 d0 d1 d2 y1 y2 c0 c1 c2 x0 x1 x2 x3 hwn HC8 HRun
      have HR9 := Lib.hid hr9
      have HO9 := Lib.hid ho9
      have HB9 := Lib.hid hb9
      have HT2 : Hid ((fun V' => Whole V' w.heap.size 24 #[.int .i64 c.ep, .int .i64 (c.nx + 1), .slice A3 (c.l.length + 1) k3] ∧ Whole V' (w.heap.size + 1 + 1) 31 #[.int .i64 (c.ep * 1048576 + c.nx), .int .u8 kind, .int .i64 key, .int .i64 now]) Z.drew) := Lib.hid ⟨h3, hx9⟩
      have HL2 : Hid (∀ V', (fun V' => Whole V' w.heap.size 24 #[.int .i64 c.ep, .int .i64 (c.nx + 1), .slice A3 (c.l.length + 1) k3] ∧ Whole V' (w.heap.size + 1 + 1) 31 #[.int .i64 (c.ep * 1048576 + c.nx), .int .u8 kind, .int .i64 key, .int .i64 now]) V' → (V'.cell? ⟨w.heap.size, 0, none⟩ = some (.int .i64 c.ep) ∧ V'.cell? ⟨w.heap.size, 1, none⟩ = some (.int .i64 (c.nx + 1)) ∧ V'.cell? ⟨w.heap.size, 2, none⟩ = some (.slice A3 (c.l.length + 1) k3)) ∧ V'.cell? ⟨w.heap.size + 1 + 1, 0, none⟩ = some (.int .i64 (c.ep * 1048576 + c.nx))) := Lib.hid (fun V' h => ⟨cells3 h.1, h.2.cell 0⟩)
      clear h3 hx9 hr9 ho9 hb9
      obtain ⟨r0, r1, r2⟩ := cells3 HR9.out
      have z0 := HR9.out.frozen 0
      have z1 := HR9.out.frozen 1
      have z2 := HR9.out.frozen 2
      refine wp_region_T (ls := []) (T := (fun V' => Whole V' w.heap.size 24 #[.int .i64 c.ep, .int .i64 (c.nx + 1), .slice A3 (c.l.length + 1) k3] ∧ Whole V' (w.heap.size + 1 + 1) 31 #[.int .i64 (c.ep * 1048576 + c.nx), .int .u8 kind, .int .i64 key, .int .i64 now])) (by kernel_rfl) ?_
      refine takeT (i := 0) (v := ?_) rfl (by kernel_rfl) (by kernel_rfl) (by kernel_rfl) (by kernel_rfl) (fun _ _ _ h => h) (by rfl) ?_ HT2.out ?_
      rotate_left
      · intro V' hV; obtain ⟨⟨y0, y1, y2⟩, y3⟩ := HL2.out V' hV; go_simp <;> with_reducible rfl
      simp only [Act.put, List.setIfInBounds_toArray, List.set_cons_zero, List.set_cons_succ]
      refine takeP (i := 1) (v := ?_) rfl (by kernel_rfl) (by kernel_rfl) (by kernel_rfl) (by kernel_rfl) (fun _ _ _ h => h) (by rfl) ?_ (fun _ => HT2.out) ?_
      rotate_left
      · intro V'; go_simp <;> with_reducible rfl
      simp only [Act.put, List.setIfInBounds_toArray, List.set_cons_zero, List.set_cons_succ]
      refine takeT (i := 2) (v := ?_) rfl (by kernel_rfl) (by kernel_rfl) (by kernel_rfl) (by kernel_rfl) (fun _ _ _ h => h) (by rfl) ?_ HT2.out ?_
      rotate_left
      · intro V' hV; obtain ⟨⟨y0, y1, y2⟩, y3⟩ := HL2.out V' hV; go_simp <;> with_reducible rfl
      simp only [Act.put, List.setIfInBounds_toArray, List.set_cons_zero, List.set_cons_succ]
      obtain ⟨e10, k10⟩ := put3 (w := Z.drew) HR9.out (.int .i64 c.ep) (.int .i64 (c.nx + 1)) (.slice A3 (c.l.length + 1) k3)
      have o10 := CallsAt.only (w := Z.drew) HO9.out k10 HR9.out (by decide)
      have b10 := k10.bel (HB9.out.drew) (by omega)
      refine oneT (i := 3) rfl (by kernel_rfl) (by rfl) (fun K hK => ?_)
      go_simp
      have HT3 := Lib.hid (show (fun V' => Whole V' w.heap.size 24 #[.int .i64 c.ep, .int .i64 (c.nx + 1), .slice A3 (c.l.length + 1) k3] ∧ Whole V' (w.heap.size + 1 + 1) 31 #[.int .i64 (c.ep * 1048576 + c.nx), .int .u8 kind, .int .i64 key, .int .i64 now]) _ from ⟨k10.far HT2.out.1 (by omega), k10.far HT2.out.2 (by omega)⟩)
      refine hK.out _ _ (fun _ => HT3.out) ?_
      clear hK K
      refine takeP (i := 4) (v := ?_) rfl (by kernel_rfl) (by kernel_rfl) (by kernel_rfl) (by kernel_rfl) (fun _ _ _ h => h) (by rfl) ?_ (fun _ => HT3.out) ?_
      rotate_left
      · intro V'; go_simp <;> with_reducible rfl
      simp only [Act.put, List.setIfInBounds_toArray, List.set_cons_zero, List.set_cons_succ]
      refine takeP (i := 5) (v := ?_) rfl (by kernel_rfl) (by kernel_rfl) (by kernel_rfl) (by kernel_rfl) (fun _ _ _ h => h) (by rfl) ?_ (fun _ => HT3.out) ?_
      rotate_left
      · intro V'; go_simp <;> with_reducible rfl
      simp only [Act.put, List.setIfInBounds_toArray, List.set_cons_zero, List.set_cons_succ]
      refine doneT (by kernel_rfl) ?_ _
      clear r0 r1 r2 z0 z1 z2
      have E10 := Lib.hid e10
      have O10 := Lib.hid o10
      have B10 := Lib.hid b10
      clear e10 k10 o10 b10
      go_wp2_with fail
      refine q_at (fun V9 hV9 => ?_)
      have e10 : Whole V9 (w.heap.size + 1) 24 #[.int .i64 c.ep, .int .i64 (c.nx + 1), .slice A3 (c.l.length + 1) k3] := by rw [← hV9]; exact E10.out
      have o10 : CallsAt V.heap.size V9 (.slice A3 (c.l.length + 1) k3) (c.l ++ [⟨c.ep * 1048576 + c.nx, kind, key, now⟩]) := by rw [← hV9]; exact O10.out
      have b10 : Below w.heap.size w V9 := by rw [← hV9]; exact B10.out
      obtain ⟨y0, y1, y2⟩ := cells3 e10
      clear hV9
      refine bodyPost_ret (v := .tuple #[.agg #[.int .i64 c.ep, .int .i64 (c.nx + 1), .slice A3 (c.l.length + 1) k3], .int .i64 (c.ep * 1048576 + c.nx), .int .i64 0]) (by simp [results, Try.results10, go_sem, y0, y1, y2]) rfl (by rw [E1.out, E2.out, E3.out]; exact ⟨A3, k3, by simp [moreC], by rw [show (moreC c kind key now).l.length = c.l.length + 1 by simp [moreC]]; exact CallsAt.weaker (base := w.heap.size) (base' := V.heap.size) o10 (by have := HS.out; omega), b10⟩)

end Go.Proofs.Ytgajnmjifhemgaa
