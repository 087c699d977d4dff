/-
  The walks of 'Close', 'Late' and 'Begin' of package call. Conditions: those that each theorem names.
-/
import Derived.Test.YtgajnmjifhemgaaClWithout
namespace Go.Proofs.Ytgajnmjifhemgaa
open Go.RowKit Go.Shelf

set_option maxRecDepth 100000 in
theorem close1_any (id : Int) (p : Nat) (x : Cl) (W : World) (hp : Whole W p 3 #[.int .i64 id]) :
    Calls Try.prog 40 (#[.agg #[.int .i64 x.id, .int .u8 x.kind, .int .i64 x.key, .int .i64 x.sent]] ++ #[.pointer (some ⟨p, 0, none⟩)]) W (BoolPost (decide (x.id = id)) W) := by
  obtain ⟨V, hV⟩ : ∃ V, W.alloc (.cells #[.int .i64 x.id, .int .u8 x.kind, .int .i64 x.key, .int .i64 x.sent] 31) = V := ⟨_, rfl⟩
  have hb : Below W.heap.size W V := by rw [← hV]; exact (Below.refl _ _).alloc (Nat.le_refl _) _
  obtain ⟨c0, c1, c2, c3⟩ := cells4 (show Whole V W.heap.size 31 #[.int .i64 x.id, .int .u8 x.kind, .int .i64 x.key, .int .i64 x.sent] by rw [← hV]; exact Whole.new _ _ _)
  have p0 := cells1 (hp.under hb)
  have HB := Lib.hid hb
  clear hb hp
  show Calls Try.prog 40 #[.agg #[.int .i64 x.id, .int .u8 x.kind, .int .i64 x.key, .int .i64 x.sent], .pointer (some ⟨p, 0, none⟩)] W _
  go_enter Try.func40, Try.ntmps40
  go_wp2_with fail
  go_ret
  exact ⟨rfl, HB.out⟩

theorem wrap64_mid {n : Int} (h0 : -9000000000000000 ≤ n) (h1 : n ≤ 9000000000000000) : wrap64 n = n := by
  unfold wrap64
  omega
/-- As Go counts: the sum may go round. -/
def lateG (now timeout : Int) (x : Cl) : Bool := decide (wrap64 (x.sent + timeout) ≤ now)
set_option maxRecDepth 100000 in
theorem late1_any (now timeout : Int) (p q : Nat) (x : Cl) (W : World) (hp : Whole W p 3 #[.int .i64 now]) (hq : Whole W q 3 #[.int .i64 timeout]) :
    Calls Try.prog 42 (#[.agg #[.int .i64 x.id, .int .u8 x.kind, .int .i64 x.key, .int .i64 x.sent]] ++ #[.pointer (some ⟨p, 0, none⟩), .pointer (some ⟨q, 0, none⟩)]) W (BoolPost (lateG now timeout x) W) := by
  obtain ⟨V, hV⟩ : ∃ V, W.alloc (.cells #[.int .i64 x.id, .int .u8 x.kind, .int .i64 x.key, .int .i64 x.sent] 31) = V := ⟨_, rfl⟩
  have hb : Below W.heap.size W V := by rw [← hV]; exact (Below.refl _ _).alloc (Nat.le_refl _) _
  obtain ⟨c0, c1, c2, c3⟩ := cells4 (show Whole V W.heap.size 31 #[.int .i64 x.id, .int .u8 x.kind, .int .i64 x.key, .int .i64 x.sent] by rw [← hV]; exact Whole.new _ _ _)
  have p0 := cells1 (hp.under hb)
  have q0 := cells1 (hq.under hb)
  have HB := Lib.hid hb
  clear hb hp hq
  show Calls Try.prog 42 #[.agg #[.int .i64 x.id, .int .u8 x.kind, .int .i64 x.key, .int .i64 x.sent], .pointer (some ⟨p, 0, none⟩), .pointer (some ⟨q, 0, none⟩)] W _
  go_enter Try.func42, Try.ntmps42
  go_wp2_with fail
  go_ret
  exact ⟨rfl, HB.out⟩

set_option maxRecDepth 100000 in
set_option maxHeartbeats 1000000 in
theorem close_any (c : Cs) (A : Option Addr) (n k : Nat) (id : Int) (B : Nat) (w : World) (hr : RdC w B A n c.l) (hB : B ≤ w.heap.size) (hn : n ≤ 1000) :
    Calls Try.prog 21 #[.agg #[.int .i64 c.ep, .int .i64 c.nx, .slice A n k], .int .i64 id] w (CsPost (closeR c id) w) := by
  have hmf : ∀ (fn : Fn) (first cap : Array Value) (w : World), (Instr.makeFunc fn first cap).run Try.prog w = .ok (.func fn first cap) w := fun _ _ _ _ => rfl
  obtain ⟨hb, w0, w1, w2⟩ := three_new w 24 3 24 #[.int .i64 c.ep, .int .i64 c.nx, .slice A n k] #[.int .i64 id] #[.int .i64 0, .int .i64 0, .slice none 0 0]
  obtain ⟨V, hV⟩ : ∃ V, ((w.alloc (.cells #[.int .i64 c.ep, .int .i64 c.nx, .slice A n k] 24)).alloc (.cells #[.int .i64 id] 3)).alloc (.cells #[.int .i64 0, .int .i64 0, .slice none 0 0] 24) = V := ⟨_, rfl⟩
  rw [hV] at hb w0 w1 w2
  obtain ⟨c0, c1, c2⟩ := cells3 w0
  have H := Lib.hid (without_any 40 #[.pointer (some ⟨w.heap.size + 1, 0, none⟩)] (fun x => decide (x.id = id)) c A n k B V (hr.below (hb.mono hB)) (Nat.le_trans hB hb.size) hn (enters_of Try.func40 (by kernel_rfl) rfl) (fun x W hW => close1_any id _ x W (w1.under hW)))
  have hd : (if rightC c then { c with l := c.l.filter fun x => !decide (x.id = id) } else c) = closeR c id := by
    unfold closeR closeC
    simp
  rw [hd] at H
  obtain ⟨d, hdd⟩ : ∃ d, closeR c id = d := ⟨_, rfl⟩
  rw [hdd] at H ⊢
  have HB := Lib.hid hb
  have HV := Lib.hid hV
  have W2 := Lib.hid w2
  clear hb w0 w1 w2 hr hB hn hV hd hdd
  go_enter Try.func21, Try.ntmps21
  go_upto_region 1 with fail
  rw [HV.out]
  clear HV
  go_wp2_with fail
  refine H.out.mono ?_
  rintro e w3 ⟨A2, k2, rfl, ho, hb3⟩
  have u2 := W2.out.under hb3
  obtain ⟨x0, x1, x2⟩ := cells3 u2
  have z0 := u2.frozen 0
  have z1 := u2.frozen 1
  have z2 := u2.frozen 2
  have HU2 := Lib.hid u2
  have HB3 := Lib.hid (HB.out.trans (hb3.mono HB.out.size))
  have HO := Lib.hid (ho.weaker HB.out.size)
  clear u2 hb3 ho c0 c1 c2
  go_wp2_with fail
  obtain ⟨e4, k4⟩ := put3 HU2.out (.int .i64 d.ep) (.int .i64 d.nx) (.slice A2 d.l.length k2)
  obtain ⟨y0, y1, y2⟩ := cells3 e4
  exact bodyPost_ret (v := .agg #[.int .i64 d.ep, .int .i64 d.nx, .slice A2 d.l.length k2]) (by simp [results, Try.results21, go_sem, y0, y1, y2]) rfl ⟨A2, k2, rfl, HO.out.only k4 HU2.out (by decide), k4.bel HB3.out (by omega)⟩

set_option maxRecDepth 100000 in
set_option maxHeartbeats 1000000 in
theorem late_any (c : Cs) (A : Option Addr) (n k : Nat) (now timeout : Int) (B : Nat) (w : World) (hr : RdC w B A n c.l) (hB : B ≤ w.heap.size) (hn : n ≤ 1000) :
    Calls Try.prog 23 #[.agg #[.int .i64 c.ep, .int .i64 c.nx, .slice A n k], .int .i64 now, .int .i64 timeout] w (CsPost (lateR c now timeout) w) := by
  have hmf : ∀ (fn : Fn) (first cap : Array Value) (w : World), (Instr.makeFunc fn first cap).run Try.prog w = .ok (.func fn first cap) w := fun _ _ _ _ => rfl
  obtain ⟨V, hV⟩ : ∃ V, (((w.alloc (.cells #[.int .i64 c.ep, .int .i64 c.nx, .slice A n k] 24)).alloc (.cells #[.int .i64 now] 3)).alloc (.cells #[.int .i64 timeout] 3)).alloc (.cells #[.int .i64 0, .int .i64 0, .slice none 0 0] 24) = V := ⟨_, rfl⟩
  obtain ⟨hb, w0, w1, w1', w2⟩ : Below w.heap.size w V ∧ Whole V w.heap.size 24 #[.int .i64 c.ep, .int .i64 c.nx, .slice A n k] ∧ Whole V (w.heap.size + 1) 3 #[.int .i64 now] ∧ Whole V (w.heap.size + 1 + 1) 3 #[.int .i64 timeout] ∧ Whole V (w.heap.size + 1 + 1 + 1) 24 #[.int .i64 0, .int .i64 0, .slice none 0 0] := by
    obtain ⟨t0, t1, t2, t3⟩ := three_new w 24 3 3 #[.int .i64 c.ep, .int .i64 c.nx, .slice A n k] #[.int .i64 now] #[.int .i64 timeout]
    rw [← hV]
    refine ⟨t0.alloc t0.size _, t1.alloc _, t2.alloc _, t3.alloc _, ?_⟩
    have := Whole.new (((w.alloc (.cells #[.int .i64 c.ep, .int .i64 c.nx, .slice A n k] 24)).alloc (.cells #[.int .i64 now] 3)).alloc (.cells #[.int .i64 timeout] 3)) 24 #[.int .i64 0, .int .i64 0, .slice none 0 0]
    simpa using this
  obtain ⟨c0, c1, c2⟩ := cells3 w0
  have m0 := cells1 w1
  have m1 := cells1 w1'
  have HBs := Lib.hid (Nat.le_trans hB hb.size)
  have HR := Lib.hid (hr.below (hb.mono hB))
  have HN := Lib.hid (fun z W => number_any z W)
  have H := Lib.hid (without_any 42 #[.pointer (some ⟨w.heap.size + 1, 0, none⟩), .pointer (some ⟨w.heap.size + 1 + 1, 0, none⟩)] (lateG now timeout) c A n k B V (hr.below (hb.mono hB)) (Nat.le_trans hB hb.size) hn (enters_of Try.func42 (by kernel_rfl) rfl) (fun x W hW => late1_any now timeout _ _ x W (w1.under hW) (w1'.under hW)))
  have hd : isNum now = true → isNum timeout = true → (if rightC c then { c with l := c.l.filter fun x => !lateG now timeout x } else c) = lateR c now timeout := by
    intro h1 h2
    unfold lateR lateC
    cases hrc : rightC c with
    | false => simp
    | true =>
      simp only [h1, h2, Bool.and_self, if_true]
      congr 1
      refine List.filter_congr fun x hx => ?_
      have h3 := ((rightC_iff.1 hrc).ok x hx).sent
      have h4 := isNum_iff.1 h2
      unfold numC at h3
      rw [lateG, wrap64_mid (by omega) (by omega)]
      rw [Bool.eq_iff_iff]
      simp
  have HD := Lib.hid hd
  obtain ⟨d, hdd⟩ : ∃ d, lateR c now timeout = d := ⟨_, rfl⟩
  rw [hdd] at HD ⊢
  have HDD := Lib.hid hdd
  have HB := Lib.hid hb
  have HV := Lib.hid hV
  have W2 := Lib.hid w2
  clear hb w0 w1 w1' w2 hr hB hV hd hdd
  cases h1 : isNum now with
  | false =>
    have hc : c = d := by rw [← HDD.out]; simp [lateR, h1]
    have HO := Lib.hid (own_anyC c A n k B V HR.out HBs.out hn)
    rw [hc] at HO
    clear H HD HDD HR
    subst hc
    clear hn
    go_enter Try.func23, Try.ntmps23
    go_upto_region 1 with fail
    rw [HV.out]
    clear HV
    go_wp2_with fail
    refine (HN.out _ _).mono ?_
    rintro e w3 ⟨rfl, rfl⟩
    go_wp2_with fail
    refine HO.out.mono ?_
    rintro e w3 ⟨A2, k2, rfl, ho, hb3⟩
    have u2 := W2.out.under hb3
    obtain ⟨x0, x1, x2⟩ := cells3 u2
    have z0 := u2.frozen 0
    have z1 := u2.frozen 1
    have z2 := u2.frozen 2
    have HU2 := Lib.hid u2
    have HB3 := Lib.hid (HB.out.trans (hb3.mono HB.out.size))
    have HO := Lib.hid (ho.weaker HB.out.size)
    clear u2 hb3 ho c0 c1 c2 m0 m1
    go_wp2_with fail
    obtain ⟨e4, k4⟩ := put3 HU2.out (.int .i64 c.ep) (.int .i64 c.nx) (.slice A2 c.l.length k2)
    obtain ⟨y0, y1, y2⟩ := cells3 e4
    exact bodyPost_ret (v := .agg #[.int .i64 c.ep, .int .i64 c.nx, .slice A2 c.l.length k2]) (by simp [results, Try.results23, go_sem, y0, y1, y2]) rfl ⟨A2, k2, rfl, HO.out.only k4 HU2.out (by decide), k4.bel HB3.out (by omega)⟩
  | true =>
    cases h2 : isNum timeout with
    | false =>
      have hc : c = d := by rw [← HDD.out]; simp [lateR, h2]
      have HO := Lib.hid (own_anyC c A n k B V HR.out HBs.out hn)
      rw [hc] at HO
      clear H HD HDD HR
      subst hc
      clear hn
      go_enter Try.func23, Try.ntmps23
      go_upto_region 1 with fail
      rw [HV.out]
      clear HV
      go_wp2_with fail
      refine (HN.out _ _).mono ?_
      rintro e w3 ⟨rfl, rfl⟩
      go_wp2_with fail
      refine (HN.out _ _).mono ?_
      rintro e w3 ⟨rfl, rfl⟩
      go_wp2_with fail
      refine HO.out.mono ?_
      rintro e w3 ⟨A2, k2, rfl, ho, hb3⟩
      have u2 := W2.out.under hb3
      obtain ⟨x0, x1, x2⟩ := cells3 u2
      have z0 := u2.frozen 0
      have z1 := u2.frozen 1
      have z2 := u2.frozen 2
      have HU2 := Lib.hid u2
      have HB3 := Lib.hid (HB.out.trans (hb3.mono HB.out.size))
      have HO := Lib.hid (ho.weaker HB.out.size)
      clear u2 hb3 ho c0 c1 c2 m0 m1
      go_wp2_with fail
      obtain ⟨e4, k4⟩ := put3 HU2.out (.int .i64 c.ep) (.int .i64 c.nx) (.slice A2 c.l.length k2)
      obtain ⟨y0, y1, y2⟩ := cells3 e4
      exact bodyPost_ret (v := .agg #[.int .i64 c.ep, .int .i64 c.nx, .slice A2 c.l.length k2]) (by simp [results, Try.results23, go_sem, y0, y1, y2]) rfl ⟨A2, k2, rfl, HO.out.only k4 HU2.out (by decide), k4.bel HB3.out (by omega)⟩
    | true =>
      rw [HD.out h1 h2] at H
      clear HD HDD HR hn
      go_enter Try.func23, Try.ntmps23
      go_upto_region 1 with fail
      rw [HV.out]
      clear HV
      go_wp2_with fail
      refine (HN.out _ _).mono ?_
      rintro e w3 ⟨rfl, rfl⟩
      go_wp2_with fail
      refine (HN.out _ _).mono ?_
      rintro e w3 ⟨rfl, rfl⟩
      go_wp2_with fail
      refine H.out.mono ?_
      rintro e w3 ⟨A2, k2, rfl, ho, hb3⟩
      have u2 := W2.out.under hb3
      obtain ⟨x0, x1, x2⟩ := cells3 u2
      have z0 := u2.frozen 0
      have z1 := u2.frozen 1
      have z2 := u2.frozen 2
      have HU2 := Lib.hid u2
      have HB3 := Lib.hid (HB.out.trans (hb3.mono HB.out.size))
      have HO := Lib.hid (ho.weaker HB.out.size)
      clear u2 hb3 ho c0 c1 c2 m0 m1
      go_wp2_with fail
      obtain ⟨e4, k4⟩ := put3 HU2.out (.int .i64 d.ep) (.int .i64 d.nx) (.slice A2 d.l.length k2)
      obtain ⟨y0, y1, y2⟩ := cells3 e4
      exact bodyPost_ret (v := .agg #[.int .i64 d.ep, .int .i64 d.nx, .slice A2 d.l.length k2]) (by simp [results, Try.results23, go_sem, y0, y1, y2]) rfl ⟨A2, k2, rfl, HO.out.only k4 HU2.out (by decide), k4.bel HB3.out (by omega)⟩

end Go.Proofs.Ytgajnmjifhemgaa
