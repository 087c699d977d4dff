/-
  The walks of 'Find' and 'Has' of package call, of 'lookAtOneMore', and of what 'Open' asks of it. Conditions: those that each theorem names.
-/
import Derived.Test.YtgajnmjifhemgaaClFirst
import Derived.Test.YtgajnmjifhemgaaClMay
import Derived.Deep.DeepCutAuto
namespace Go.Proofs.Ytgajnmjifhemgaa
open Go.RowKit Go.Shelf

set_option maxRecDepth 100000 in
theorem find1_any (id : Int) (p : Nat) (x : Cl) (W : World) (hp : Whole W p 3 #[.int .i64 id]) :
    Calls Try.prog 35 (#[.agg #[.int .i64 x.id, .int .u8 x.kind, .int .i64 x.key, .int .i64 x.sent]] ++ #[.pointer (some ⟨p, 0, none⟩)]) W (BoolPost (decide (x.id = id)) W) := by
  obtain ⟨V, hV⟩ : ∃ V, W.alloc (.cells #[.int .i64 x.id, .int .u8 x.kind, .int .i64 x.key, .int .i64 x.sent] 31) = V := ⟨_, rfl⟩
  have hb : Below W.heap.size W V := by rw [← hV]; exact (Below.refl _ _).alloc (Nat.le_refl _) _
  obtain ⟨c0, c1, c2, c3⟩ := cells4 (show Whole V W.heap.size 31 #[.int .i64 x.id, .int .u8 x.kind, .int .i64 x.key, .int .i64 x.sent] by rw [← hV]; exact Whole.new _ _ _)
  have p0 := cells1 (hp.under hb)
  have HB := Lib.hid hb
  clear hb hp
  show Calls Try.prog 35 #[.agg #[.int .i64 x.id, .int .u8 x.kind, .int .i64 x.key, .int .i64 x.sent], .pointer (some ⟨p, 0, none⟩)] W _
  go_enter Try.func35, Try.ntmps35
  go_wp2_with fail
  go_ret
  exact ⟨rfl, HB.out⟩

set_option maxRecDepth 100000 in
theorem has1_any (kind key : Int) (p q : Nat) (x : Cl) (W : World) (hp : Whole W p 5 #[.int .u8 kind]) (hq : Whole W q 3 #[.int .i64 key]) :
    Calls Try.prog 38 (#[.agg #[.int .i64 x.id, .int .u8 x.kind, .int .i64 x.key, .int .i64 x.sent]] ++ #[.pointer (some ⟨p, 0, none⟩), .pointer (some ⟨q, 0, none⟩)]) W (BoolPost (decide (x.kind = kind ∧ x.key = key)) W) := by
  obtain ⟨V, hV⟩ : ∃ V, W.alloc (.cells #[.int .i64 x.id, .int .u8 x.kind, .int .i64 x.key, .int .i64 x.sent] 31) = V := ⟨_, rfl⟩
  have hb : Below W.heap.size W V := by rw [← hV]; exact (Below.refl _ _).alloc (Nat.le_refl _) _
  obtain ⟨c0, c1, c2, c3⟩ := cells4 (show Whole V W.heap.size 31 #[.int .i64 x.id, .int .u8 x.kind, .int .i64 x.key, .int .i64 x.sent] by rw [← hV]; exact Whole.new _ _ _)
  have p0 := cells1 (hp.under hb)
  have q0 := cells1 (hq.under hb)
  have HB := Lib.hid hb
  clear hb hp hq
  show Calls Try.prog 38 #[.agg #[.int .i64 x.id, .int .u8 x.kind, .int .i64 x.key, .int .i64 x.sent], .pointer (some ⟨p, 0, none⟩), .pointer (some ⟨q, 0, none⟩)] W _
  obtain ⟨r, hr⟩ : ∃ r, decide (x.kind = kind ∧ x.key = key) = r := ⟨_, rfl⟩
  rw [hr]
  cases h1 : (x.kind == kind) with
  | false =>
    have HRes : Hid (r = false) := Lib.hid (by rw [← hr]; simp at h1; simp [h1])
    clear hr
    go_enter Try.func38, Try.ntmps38
    go_wp2_with fail
    go_ret
    exact ⟨by rw [HRes.out]; rfl, HB.out⟩
  | true =>
    have HRes : Hid (r = (x.key == key)) := Lib.hid (by rw [← hr]; simp at h1; rw [h1]; simp; rfl)
    clear hr
    go_enter Try.func38, Try.ntmps38
    go_wp2_with fail
    go_ret
    exact ⟨by rw [HRes.out]; rfl, HB.out⟩

/-- What comes of a call that finds. -/
def FindPost (r : Option Cl) (w : World) (e : Ending) (w' : World) : Prop := e = .returned (.tuple #[.agg #[.int .i64 (r.getD ⟨0, 0, 0, 0⟩).id, .int .u8 (r.getD ⟨0, 0, 0, 0⟩).kind, .int .i64 (r.getD ⟨0, 0, 0, 0⟩).key, .int .i64 (r.getD ⟨0, 0, 0, 0⟩).sent], .bool r.isSome]) ∧ Below w.heap.size w w'

set_option maxRecDepth 100000 in
set_option maxHeartbeats 1000000 in
theorem find_any (c : Cs) (A : Option Addr) (n k : Nat) (id : Int) (B : Nat) (w : World) (hr : RdC w B A n c.l) (hB : B ≤ w.heap.size) (hn : n ≤ 1000) :
    Calls Try.prog 12 #[.agg #[.int .i64 c.ep, .int .i64 c.nx, .slice A n k], .int .i64 id] w (FindPost (findC c id) w) := by
  have hmf : ∀ (fn : Fn) (first cap : Array Value) (w : World), (Instr.makeFunc fn first cap).run Try.prog w = .ok (.func fn first cap) w := fun _ _ _ _ => rfl
  obtain ⟨hb, w0, w1, w2⟩ := three_new w 24 3 31 #[.int .i64 c.ep, .int .i64 c.nx, .slice A n k] #[.int .i64 id] #[.int .i64 0, .int .u8 0, .int .i64 0, .int .i64 0]
  obtain ⟨V, hV⟩ : ∃ V, ((w.alloc (.cells #[.int .i64 c.ep, .int .i64 c.nx, .slice A n k] 24)).alloc (.cells #[.int .i64 id] 3)).alloc (.cells #[.int .i64 0, .int .u8 0, .int .i64 0, .int .i64 0] 31) = V := ⟨_, rfl⟩
  rw [hV] at hb w0 w1 w2
  obtain ⟨c0, c1, c2⟩ := cells3 w0
  have H := Lib.hid (first_any 35 #[.pointer (some ⟨w.heap.size + 1, 0, none⟩)] (fun x => decide (x.id = id)) c.ep c.nx A n k c.l B V (hr.below (hb.mono hB)) (Nat.le_trans hB hb.size) hn (enters_of Try.func35 (by kernel_rfl) rfl) (fun x W hW => find1_any id _ x W (w1.under hW)))
  obtain ⟨r, hres⟩ : ∃ r, findC c id = r := ⟨_, rfl⟩
  have hres' : c.l.find? (fun x => decide (x.id = id)) = r := hres
  rw [hres'] at H
  rw [hres]
  have HB := Lib.hid hb
  have HV := Lib.hid hV
  have HW2 := Lib.hid w2
  clear hb w0 w1 w2 hr hB hn hres hres' hV
  go_enter Try.func12, Try.ntmps12
  go_upto_region 1 with fail
  rw [HV.out]
  clear HV
  go_wp2_with fail
  refine H.out.mono ?_
  rintro e w3 ⟨rfl, hb3⟩
  have u2 := HW2.out.under hb3
  obtain ⟨x0, x1, x2, x3⟩ := cells4 u2
  have z0 := u2.frozen 0
  have z1 := u2.frozen 1
  have z2 := u2.frozen 2
  have z3 := u2.frozen 3
  have HU2 := Lib.hid u2
  have HB3 := Lib.hid (HB.out.trans (hb3.mono HB.out.size))
  clear u2 hb3 c0 c1 c2
  go_wp2_with fail
  obtain ⟨e4, k4⟩ := put4 HU2.out (.int .i64 (r.getD ⟨0, 0, 0, 0⟩).id) (.int .u8 (r.getD ⟨0, 0, 0, 0⟩).kind) (.int .i64 (r.getD ⟨0, 0, 0, 0⟩).key) (.int .i64 (r.getD ⟨0, 0, 0, 0⟩).sent)
  obtain ⟨y0, y1, y2, y3⟩ := cells4 e4
  exact bodyPost_ret (v := .tuple #[.agg #[.int .i64 (r.getD ⟨0, 0, 0, 0⟩).id, .int .u8 (r.getD ⟨0, 0, 0, 0⟩).kind, .int .i64 (r.getD ⟨0, 0, 0, 0⟩).key, .int .i64 (r.getD ⟨0, 0, 0, 0⟩).sent], .bool r.isSome]) (by simp [results, Try.results12, go_sem, y0, y1, y2, y3]) rfl ⟨rfl, k4.bel HB3.out (by omega)⟩

set_option maxRecDepth 100000 in
set_option maxHeartbeats 1000000 in
theorem has_any (c : Cs) (A : Option Addr) (n k : Nat) (kind key : Int) (B : Nat) (w : World) (hr : RdC w B A n c.l) (hB : B ≤ w.heap.size) (hn : n ≤ 1000) :
    Calls Try.prog 19 #[.agg #[.int .i64 c.ep, .int .i64 c.nx, .slice A n k], .int .u8 kind, .int .i64 key] w (BoolPost (hasC c kind key) w) := by
  have hmf : ∀ (fn : Fn) (first cap : Array Value) (w : World), (Instr.makeFunc fn first cap).run Try.prog w = .ok (.func fn first cap) w := fun _ _ _ _ => rfl
  obtain ⟨hb, w0, w1, w2⟩ := three_new w 24 5 3 #[.int .i64 c.ep, .int .i64 c.nx, .slice A n k] #[.int .u8 kind] #[.int .i64 key]
  obtain ⟨V, hV⟩ : ∃ V, ((w.alloc (.cells #[.int .i64 c.ep, .int .i64 c.nx, .slice A n k] 24)).alloc (.cells #[.int .u8 kind] 5)).alloc (.cells #[.int .i64 key] 3) = V := ⟨_, rfl⟩
  rw [hV] at hb w0 w1 w2
  obtain ⟨c0, c1, c2⟩ := cells3 w0
  have H := Lib.hid (first_any 38 #[.pointer (some ⟨w.heap.size + 1, 0, none⟩), .pointer (some ⟨w.heap.size + 1 + 1, 0, none⟩)] (fun x => decide (x.kind = kind ∧ x.key = key)) c.ep c.nx A n k c.l B V (hr.below (hb.mono hB)) (Nat.le_trans hB hb.size) hn (enters_of Try.func38 (by kernel_rfl) rfl) (fun x W hW => has1_any kind key _ _ x W (w1.under hW) (w2.under hW)))
  have hh : hasC c kind key = (c.l.find? (fun x => decide (x.kind = kind ∧ x.key = key))).isSome := by
    rw [hasC, Bool.eq_iff_iff, List.find?_isSome, List.any_eq_true]
  rw [hh]
  obtain ⟨r, hres⟩ : ∃ r, c.l.find? (fun x => decide (x.kind = kind ∧ x.key = key)) = r := ⟨_, rfl⟩
  rw [hres] at H ⊢
  have HB := Lib.hid hb
  have HV := Lib.hid hV
  clear hb w0 w1 w2 hr hB hn hres hh hV
  go_enter Try.func19, Try.ntmps19
  go_upto_region 1 with fail
  rw [HV.out]
  clear HV
  go_wp2_with fail
  refine H.out.mono ?_
  rintro e w3 ⟨rfl, hb3⟩
  have HB3 := Lib.hid (HB.out.trans (hb3.mono HB.out.size))
  clear hb3 c0 c1 c2
  go_wp2_with fail
  go_ret
  exact ⟨rfl, HB3.out.alloc HB3.out.size _⟩

set_option maxRecDepth 100000 in
set_option maxHeartbeats 1000000 in
/-- Calls that may be, and one that may be beside them. -/
theorem oneMore_any (c : Cs) (x : Cl) (A : Option Addr) (n k : Nat) (B : Nat) (w : World) (hr : RdC w B A n c.l) (hB : B ≤ w.heap.size) (hn : n ≤ 1000) :
    Calls Try.prog 29 #[.agg #[.int .i64 c.ep, .int .i64 c.nx, .slice A n k], .agg #[.int .i64 x.id, .int .u8 x.kind, .int .i64 x.key, .int .i64 x.sent]] w (EndsIf (rightC c && (oneB x && !hasC c x.kind x.key)) w) := by
  obtain ⟨hb, w0, w1⟩ := two_new w 24 31 #[.int .i64 c.ep, .int .i64 c.nx, .slice A n k] #[.int .i64 x.id, .int .u8 x.kind, .int .i64 x.key, .int .i64 x.sent]
  obtain ⟨V, hV⟩ : ∃ V, (w.alloc (.cells #[.int .i64 c.ep, .int .i64 c.nx, .slice A n k] 24)).alloc (.cells #[.int .i64 x.id, .int .u8 x.kind, .int .i64 x.key, .int .i64 x.sent] 31) = V := ⟨_, rfl⟩
  rw [hV] at hb w0 w1
  have HR := Lib.hid (hr.below (hb.mono hB))
  have HBs := Lib.hid (Nat.le_trans hB hb.size)
  obtain ⟨c0, c1, c2⟩ := cells3 w0
  obtain ⟨L, hL⟩ : ∃ L, (rightC c && (oneB x && !hasC c x.kind x.key)) = L := ⟨_, rfl⟩
  rw [hL]
  have HL := Lib.hid hL
  have HN := Lib.hid (fun b W => must_any b W)
  have HB := Lib.hid hb
  have HV := Lib.hid hV
  have W0 := Lib.hid w0
  have W1 := Lib.hid w1
  clear hb w0 w1 hr hB hL hV
  go_enter Try.func29, Try.ntmps29
  go_upto_region 1 with fail
  rw [HV.out]
  clear HV
  go_wp2_with fail
  refine (look_any c A n k B V HR.out HBs.out hn).mono ?_
  rintro e w2 ⟨hb2, ⟨h, rfl⟩ | ⟨h, rfl⟩⟩
  rotate_left
  · have HF := Lib.hid (show L = false by rw [← HL.out, h, Bool.false_and])
    clear h c0 c1 c2
    go_wp2_with fail
    exact ⟨rfl, HB.out.trans (hb2.mono HB.out.size), .inr ⟨HF.out, rfl⟩⟩
  have H1 := Lib.hid h
  have HR2 := Lib.hid (HR.out.below (hb2.mono HBs.out))
  have HS2 := Lib.hid (Nat.le_trans HBs.out hb2.size)
  have W02 := Lib.hid (W0.out.under hb2)
  have W12 := Lib.hid (W1.out.under hb2)
  have HB2 := Lib.hid (HB.out.trans (hb2.mono HB.out.size))
  clear h hb2 c0 c1 c2 W0 W1
  obtain ⟨x0, x1, x2, x3⟩ := cells4 W12.out
  go_wp2_with fail
  refine (lookAtOne_any x w2).mono ?_
  rintro e w3 ⟨hb3, ⟨h, rfl⟩ | ⟨h, rfl⟩⟩
  rotate_left
  · have HF := Lib.hid (show L = false by rw [← HL.out, h, Bool.false_and, Bool.and_false])
    clear h x0 x1 x2 x3
    go_wp2_with fail
    exact ⟨rfl, HB2.out.trans (hb3.mono HB2.out.size), .inr ⟨HF.out, rfl⟩⟩
  have H2 := Lib.hid h
  have HR3 := Lib.hid (HR2.out.below (hb3.mono HS2.out))
  have HS3 := Lib.hid (Nat.le_trans HS2.out hb3.size)
  have W03 := Lib.hid (W02.out.under hb3)
  have W13 := Lib.hid (W12.out.under hb3)
  have HB3 := Lib.hid (HB2.out.trans (hb3.mono HB2.out.size))
  clear h hb3 x0 x1 x2 x3 W02 W12
  obtain ⟨x0, x1, x2, x3⟩ := cells4 W13.out
  obtain ⟨c0, c1, c2⟩ := cells3 W03.out
  go_wp2_with fail
  refine (has_any c A n k x.kind x.key B w3 HR3.out HS3.out hn).mono ?_
  rintro e w4 ⟨rfl, hb4⟩
  have HF := Lib.hid (show L = !hasC c x.kind x.key by rw [← HL.out, H1.out, H2.out, Bool.true_and, Bool.true_and])
  have HB4 := Lib.hid (HB3.out.trans (hb4.mono HB3.out.size))
  clear x0 x1 x2 x3 c0 c1 c2 hb4
  go_wp2_with fail
  refine (HN.out _ _).mono ?_
  rintro e w5 ⟨rfl, ⟨h, rfl⟩ | ⟨h, rfl⟩⟩
  · have HG := Lib.hid (HF.out.trans h)
    clear h
    go_wp2_with fail
    go_end0
    exact ⟨HB4.out, .inl ⟨HG.out, rfl⟩⟩
  · have HG := Lib.hid (HF.out.trans h)
    clear h
    go_wp2_with fail
    exact ⟨rfl, HB4.out, .inr ⟨HG.out, rfl⟩⟩

end Go.Proofs.Ytgajnmjifhemgaa
