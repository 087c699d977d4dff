/-
  The walk of the statement NetTells, where what is given is great: each function answers what a plain one tells. Conditions: those that each theorem names.
-/
import Derived.Test.YtcbbjloojngoiaaNtLawKit
import Derived.Test.YtcbbjloojngoiaaRegT
import Derived.Test.YtcbbjloojngoiaaNtRefSend
import Derived.Test.YtcbbjloojngoiaaNtRefAsk
import Derived.Test.YtcbbjloojngoiaaNtRefTell
import Derived.Test.YtcbbjloojngoiaaNtRefTwice
import Derived.Deep.DeepCutAuto
namespace Go.Proofs.Ytcbbjloojngoiaa
open Go.RowKit Go.Shelf

theorem four_new (w : World) (t u v v' : TypeId) (xs ys zs us : Array Value) : Below w.heap.size w ((((w.alloc (.cells xs t)).alloc (.cells ys u)).alloc (.cells zs v)).alloc (.cells us v')) ∧ Whole ((((w.alloc (.cells xs t)).alloc (.cells ys u)).alloc (.cells zs v)).alloc (.cells us v')) w.heap.size t xs ∧ Whole ((((w.alloc (.cells xs t)).alloc (.cells ys u)).alloc (.cells zs v)).alloc (.cells us v')) (w.heap.size + 1) u ys ∧ Whole ((((w.alloc (.cells xs t)).alloc (.cells ys u)).alloc (.cells zs v)).alloc (.cells us v')) (w.heap.size + 1 + 1) v zs ∧ Whole ((((w.alloc (.cells xs t)).alloc (.cells ys u)).alloc (.cells zs v)).alloc (.cells us v')) (w.heap.size + 1 + 1 + 1) v' us := by
  obtain ⟨h0, h1, h2, h3⟩ := three_new w t u v xs ys zs
  refine ⟨h0.alloc (by simp; omega) _, h1.alloc _, h2.alloc _, h3.alloc _, ?_⟩
  have := Whole.new (((w.alloc (.cells xs t)).alloc (.cells ys u)).alloc (.cells zs v)) v' us
  simpa using this
theorem few_sendN {s : Nt} (h : greatN s = false) (q : Ak) : (sendN s q).few := by
  obtain ⟨h1, h2, h3⟩ := greatN_no h
  rw [sendN]
  split
  · exact ⟨by omega, by omega, fun t ht => by have := h3 t ht; omega⟩
  · exact ⟨by simp; omega, by simp only; omega, fun t ht => by have := h3 t ht; omega⟩
theorem few_postN {s : Nt} (h : greatN s = false) {t : Tl} (ht : t.seen.length ≤ 100) : (postN s t).few := by
  obtain ⟨h1, h2, h3⟩ := greatN_no h
  rw [postN]
  split
  · exact ⟨by omega, by omega, fun t ht => by have := h3 t ht; omega⟩
  · refine ⟨by simp only; omega, by simp; omega, fun u hu => ?_⟩
    simp only [List.mem_append, List.mem_singleton] at hu
    rcases hu with hu | rfl
    · have := h3 u hu; omega
    · exact ht
theorem few_askN {s : Nt} (h : greatN s = false) (z : Int) : (askN s z).few := by
  obtain ⟨h1, h2, h3⟩ := greatN_no h
  exact ⟨by simp only [askN]; have := List.length_eraseIdx_le s.ks (placeN z s.ks.length); omega, by simp only [askN]; omega, fun t ht => by have := h3 t ht; omega⟩
theorem few_tellN {s : Nt} (h : greatN s = false) (z : Int) : (tellN s z).few := by
  obtain ⟨h1, h2, h3⟩ := greatN_no h
  exact ⟨by simp only [tellN]; omega, by simp only [tellN]; have := List.length_eraseIdx_le s.ts (placeN z s.ts.length); omega, fun t ht => by have := h3 t (List.mem_of_mem_eraseIdx ht); omega⟩
theorem few_twiceN {s : Nt} (h : greatN s = false) (z : Int) (b : Bool) : (twiceN s z b).few := by
  obtain ⟨h1, h2, h3⟩ := greatN_no h
  have h0 : s.few := ⟨by omega, by omega, fun t ht => by have := h3 t ht; omega⟩
  rw [twiceN]
  split
  · cases ht : tellT s z with
    | none => exact h0
    | some t => exact few_postN h (by have := h3 t (List.mem_of_getElem? ht); omega)
  · cases ha : askA s z with
    | none => exact h0
    | some a => exact few_sendN h a

/-- A row of one's own stands, whatever turns in a block that is newer. -/
theorem own_fresh {y W1 X : World} {base sz n : Nat} {e : TypeId} {v : Value} {xs : List Value} (ho : y.ownsRow base e sz v n xs) (h1 : W1.ownsRow base e sz v n xs) (k : Only y.heap.size W1 X) : X.ownsRow base e sz v n xs :=
  h1.kept k.grown (by
    rcases ho.2 with ⟨rfl, _⟩ | ⟨g', cap, cur, rfl, hb, hg, _⟩
    · exact .inl rfl
    · right
      have := (Array.getElem?_eq_some_iff.1 hg).1
      simp only [Value.ownBlock, ne_eq, Option.some.injEq]
      omega)
/-- One's own rows that stand make a way that stands. -/
theorem NtO.of {y X : World} {base : Nat} {A A' : Option Addr} {c c' : Nat} {s : Nt} (h : NtO base y A c A' c' s) (k : ∀ (base sz n : Nat) (e : TypeId) (v : Value) (xs : List Value), y.ownsRow base e sz v n xs → e ≠ 25 → X.ownsRow base e sz v n xs) : NtO base X A c A' c' s := by
  refine ⟨k _ _ _ _ _ _ h.ks (by decide), ?_⟩
  obtain ⟨es, v1, v2, v3⟩ := h.ts
  exact ⟨es, k _ _ _ _ _ _ v1 (by decide), v2, fun y hy => k _ _ _ _ _ _ (v3 y hy) (by decide)⟩
/-- A new block, a store into an older one of a way, then a store into the new one. -/
theorem put_new {y : World} {g : Nat} {tk : TypeId} {u0 u1 : Value} (P : Whole y g 25 #[u0, u1]) (z0 z1 z2 z3 z4 z5 v0 v1 a0 a1 a2 a3 a4 a5 : Value) {X : World}
    (hX : ((((((((y.alloc (.cells #[z0, z1, z2, z3, z4, z5] tk)).setCell ⟨g, 0, none⟩ v0).setCell ⟨g, 1, none⟩ v1).setCell ⟨y.heap.size, 0, none⟩ a0).setCell ⟨y.heap.size, 1, none⟩ a1).setCell ⟨y.heap.size, 2, none⟩ a2).setCell ⟨y.heap.size, 3, none⟩ a3).setCell ⟨y.heap.size, 4, none⟩ a4).setCell ⟨y.heap.size, 5, none⟩ a5 = X) :
    Whole X g 25 #[v0, v1] ∧ Whole X y.heap.size tk #[a0, a1, a2, a3, a4, a5] ∧ (∀ (b : Nat) (t : TypeId) (cs : Array Value), Whole y b t cs → b ≠ g → Whole X b t cs) ∧ (∀ (B : Nat) (w0 : World), Below B w0 y → B ≤ g → B ≤ y.heap.size → Below B w0 X) ∧ (∀ (base sz n : Nat) (e : TypeId) (v : Value) (xs : List Value), y.ownsRow base e sz v n xs → e ≠ 25 → X.ownsRow base e sz v n xs) := by
  have hlt := P.lt
  have pa := P.alloc (.cells #[z0, z1, z2, z3, z4, z5] tk)
  have na := Whole.new y tk #[z0, z1, z2, z3, z4, z5]
  have ba := (Below.refl y.heap.size y).alloc (Nat.le_refl _) (.cells #[z0, z1, z2, z3, z4, z5] tk)
  obtain ⟨p1, k1⟩ := put2 pa v0 v1
  obtain ⟨p2, k2⟩ := put6 (k1.far na (by omega)) a0 a1 a2 a3 a4 a5
  rw [hX] at p2 k2
  refine ⟨k2.far p1 (by omega), p2, fun b t cs h hb => k2.far (k1.far (h.alloc _) hb) (by have := h.lt; omega), fun B w0 h h1 h2 => k2.bel (k1.bel (h.trans (ba.mono h2)) h1) h2, fun base sz n e v xs h he => own_fresh h (k1.own (own_under h ba) pa he) k2⟩
theorem put_old {y : World} {g : Nat} {u0 u1 : Value} (P : Whole y g 25 #[u0, u1]) (v0 v1 : Value) {X : World} (hX : (y.setCell ⟨g, 0, none⟩ v0).setCell ⟨g, 1, none⟩ v1 = X) :
    Whole X g 25 #[v0, v1] ∧ (∀ (b : Nat) (t : TypeId) (cs : Array Value), Whole y b t cs → b ≠ g → Whole X b t cs) ∧ (∀ (B : Nat) (w0 : World), Below B w0 y → B ≤ g → Below B w0 X) ∧ (∀ (base sz n : Nat) (e : TypeId) (v : Value) (xs : List Value), y.ownsRow base e sz v n xs → e ≠ 25 → X.ownsRow base e sz v n xs) := by
  obtain ⟨p1, k1⟩ := put2 P v0 v1
  rw [hX] at p1 k1
  exact ⟨p1, fun b t cs h hb => k1.far h hb, fun B w0 h h1 => k1.bel h h1, fun base sz n e v xs h he => k1.own h P he⟩

set_option maxRecDepth 100000 in
set_option maxHeartbeats 16000000 in
theorem tells_great (A : Option Addr) (n c : Nat) (A' : Option Addr) (n' c' : Nat) (s : Nt) (B : Option Addr) (m d : Nat) (B' : Option Addr) (m' d' : Nat) (s2 : Nt) (q : Ak) (x : TE) (z : Int) (tells : Bool) (w : World) (hr : NtIn w A n A' n' s) (hr2 : NtIn w B m B' m' s2) (_ : RdSn w w.heap.size x.A x.n x.l) (hg : greatN s = true) :
    Calls Try.prog 3 #[.agg #[.slice A n c, .slice A' n' c'], .agg #[.slice B m d, .slice B' m' d'], .agg #[.int .u8 q.kind, .int .i64 q.call, .int .i64 q.a, .int .i64 q.b, .int .i64 q.c, .int .i64 q.d], .agg #[.int .i64 x.call, .int .u8 x.kind, .int .u8 x.code, .int .i64 x.id, .slice x.A x.n x.c, .bool x.more], .int .i64 z, .bool tells] w (TruePost w) := by
  have HG := Lib.hid hg
  clear hg
  obtain ⟨hb, h0, h1, h2, h3⟩ := four_new w 25 25 27 30 #[.slice A n c, .slice A' n' c'] #[.slice B m d, .slice B' m' d'] #[.int .u8 q.kind, .int .i64 q.call, .int .i64 q.a, .int .i64 q.b, .int .i64 q.c, .int .i64 q.d] #[.int .i64 x.call, .int .u8 x.kind, .int .u8 x.code, .int .i64 x.id, .slice x.A x.n x.c, .bool x.more]
  obtain ⟨V, hV⟩ : ∃ V, (((w.alloc (.cells #[.slice A n c, .slice A' n' c'] 25)).alloc (.cells #[.slice B m d, .slice B' m' d'] 25)).alloc (.cells #[.int .u8 q.kind, .int .i64 q.call, .int .i64 q.a, .int .i64 q.b, .int .i64 q.c, .int .i64 q.d] 27)).alloc (.cells #[.int .i64 x.call, .int .u8 x.kind, .int .u8 x.code, .int .i64 x.id, .slice x.A x.n x.c, .bool x.more] 30) = V := ⟨_, rfl⟩
  rw [hV] at hb h0 h1 h2 h3
  have HV := Lib.hid hV
  have N0 := Lib.hid h0
  have N1 := Lib.hid h1
  have N2 := Lib.hid h2
  have N3 := Lib.hid h3
  have I0 := Lib.hid (hr.up hb)
  have I1 := Lib.hid (hr2.up hb)
  have BB := Lib.hid hb
  clear hV hb h0 h1 h2 h3
  clear hr hr2
  go_enter Try.func3, Try.ntmps3
  go_upto_region 1 with fail
  rw [HV.out]
  clear HV
  obtain ⟨x0, x1⟩ := cells2 N0.out
  obtain ⟨y0, y1⟩ := cells2 N1.out
  obtain ⟨z0, z1, z2, z3, z4, z5⟩ := cellsW6 N3.out
  go_wp2_with fail
  refine Calls.mono (I0.out.great c c') ?_
  rintro e y ⟨rfl, b⟩
  rw [HG.out]
  have N0_ := Lib.hid (N0.out.under b)
  have N1_ := Lib.hid (N1.out.under b)
  have N2_ := Lib.hid (N2.out.under b)
  have N3_ := Lib.hid (N3.out.under b)
  have I0_ := Lib.hid (I0.out.up b)
  have I1_ := Lib.hid (I1.out.up b)
  have BB_ := Lib.hid (BB.out.trans (b.mono BB.out.size))
  clear N0 N1 N2 N3 I0 I1 BB
  have N0 := N0_
  have N1 := N1_
  have N2 := N2_
  have N3 := N3_
  have I0 := I0_
  have I1 := I1_
  have BB := BB_
  clear N0_ N1_ N2_ N3_ I0_ I1_ BB_
  clear b x0 x1 y0 y1 z0 z1 z2 z3 z4 z5
  obtain ⟨x0, x1⟩ := cells2 N0.out
  obtain ⟨y0, y1⟩ := cells2 N1.out
  obtain ⟨z0, z1, z2, z3, z4, z5⟩ := cellsW6 N3.out
  go_wp2_with fail
  refine Calls.mono (wakesN_any _) ?_
  rintro e y2 ⟨rfl, b⟩
  have N0_ := Lib.hid (N0.out.under b)
  have N1_ := Lib.hid (N1.out.under b)
  have N2_ := Lib.hid (N2.out.under b)
  have N3_ := Lib.hid (N3.out.under b)
  have I0_ := Lib.hid (I0.out.up b)
  have I1_ := Lib.hid (I1.out.up b)
  have BB_ := Lib.hid (BB.out.trans (b.mono BB.out.size))
  clear N0 N1 N2 N3 I0 I1 BB
  have N0 := N0_
  have N1 := N1_
  have N2 := N2_
  have N3 := N3_
  have I0 := I0_
  have I1 := I1_
  have BB := BB_
  clear N0_ N1_ N2_ N3_ I0_ I1_ BB_
  clear b
  go_wp2_with fail
  go_ret
  exact ⟨rfl, BB.out⟩

set_option maxRecDepth 100000 in
set_option maxHeartbeats 16000000 in
theorem tells_great2 (A : Option Addr) (n c : Nat) (A' : Option Addr) (n' c' : Nat) (s : Nt) (B : Option Addr) (m d : Nat) (B' : Option Addr) (m' d' : Nat) (s2 : Nt) (q : Ak) (x : TE) (z : Int) (tells : Bool) (w : World) (hr : NtIn w A n A' n' s) (hr2 : NtIn w B m B' m' s2) (_ : RdSn w w.heap.size x.A x.n x.l) (hg : greatN s = false) (hg2 : greatN s2 = true) :
    Calls Try.prog 3 #[.agg #[.slice A n c, .slice A' n' c'], .agg #[.slice B m d, .slice B' m' d'], .agg #[.int .u8 q.kind, .int .i64 q.call, .int .i64 q.a, .int .i64 q.b, .int .i64 q.c, .int .i64 q.d], .agg #[.int .i64 x.call, .int .u8 x.kind, .int .u8 x.code, .int .i64 x.id, .slice x.A x.n x.c, .bool x.more], .int .i64 z, .bool tells] w (TruePost w) := by
  have HG := Lib.hid hg
  have HG2 := Lib.hid hg2
  clear hg hg2
  obtain ⟨hb, h0, h1, h2, h3⟩ := four_new w 25 25 27 30 #[.slice A n c, .slice A' n' c'] #[.slice B m d, .slice B' m' d'] #[.int .u8 q.kind, .int .i64 q.call, .int .i64 q.a, .int .i64 q.b, .int .i64 q.c, .int .i64 q.d] #[.int .i64 x.call, .int .u8 x.kind, .int .u8 x.code, .int .i64 x.id, .slice x.A x.n x.c, .bool x.more]
  obtain ⟨V, hV⟩ : ∃ V, (((w.alloc (.cells #[.slice A n c, .slice A' n' c'] 25)).alloc (.cells #[.slice B m d, .slice B' m' d'] 25)).alloc (.cells #[.int .u8 q.kind, .int .i64 q.call, .int .i64 q.a, .int .i64 q.b, .int .i64 q.c, .int .i64 q.d] 27)).alloc (.cells #[.int .i64 x.call, .int .u8 x.kind, .int .u8 x.code, .int .i64 x.id, .slice x.A x.n x.c, .bool x.more] 30) = V := ⟨_, rfl⟩
  rw [hV] at hb h0 h1 h2 h3
  have HV := Lib.hid hV
  have N0 := Lib.hid h0
  have N1 := Lib.hid h1
  have N2 := Lib.hid h2
  have N3 := Lib.hid h3
  have I0 := Lib.hid (hr.up hb)
  have I1 := Lib.hid (hr2.up hb)
  have BB := Lib.hid hb
  clear hV hb h0 h1 h2 h3
  clear hr hr2
  go_enter Try.func3, Try.ntmps3
  go_upto_region 1 with fail
  rw [HV.out]
  clear HV
  obtain ⟨x0, x1⟩ := cells2 N0.out
  obtain ⟨y0, y1⟩ := cells2 N1.out
  obtain ⟨z0, z1, z2, z3, z4, z5⟩ := cellsW6 N3.out
  go_wp2_with fail
  refine Calls.mono (I0.out.great c c') ?_
  rintro e y ⟨rfl, b⟩
  rw [HG.out]
  have N0_ := Lib.hid (N0.out.under b)
  have N1_ := Lib.hid (N1.out.under b)
  have N2_ := Lib.hid (N2.out.under b)
  have N3_ := Lib.hid (N3.out.under b)
  have I0_ := Lib.hid (I0.out.up b)
  have I1_ := Lib.hid (I1.out.up b)
  have BB_ := Lib.hid (BB.out.trans (b.mono BB.out.size))
  clear N0 N1 N2 N3 I0 I1 BB
  have N0 := N0_
  have N1 := N1_
  have N2 := N2_
  have N3 := N3_
  have I0 := I0_
  have I1 := I1_
  have BB := BB_
  clear N0_ N1_ N2_ N3_ I0_ I1_ BB_
  clear b x0 x1 y0 y1 z0 z1 z2 z3 z4 z5
  obtain ⟨x0, x1⟩ := cells2 N0.out
  obtain ⟨y0, y1⟩ := cells2 N1.out
  obtain ⟨z0, z1, z2, z3, z4, z5⟩ := cellsW6 N3.out
  go_wp2_with fail
  refine Calls.mono (I1.out.great d d') ?_
  rintro e y ⟨rfl, b⟩
  rw [HG2.out]
  have N0_ := Lib.hid (N0.out.under b)
  have N1_ := Lib.hid (N1.out.under b)
  have N2_ := Lib.hid (N2.out.under b)
  have N3_ := Lib.hid (N3.out.under b)
  have I0_ := Lib.hid (I0.out.up b)
  have I1_ := Lib.hid (I1.out.up b)
  have BB_ := Lib.hid (BB.out.trans (b.mono BB.out.size))
  clear N0 N1 N2 N3 I0 I1 BB
  have N0 := N0_
  have N1 := N1_
  have N2 := N2_
  have N3 := N3_
  have I0 := I0_
  have I1 := I1_
  have BB := BB_
  clear N0_ N1_ N2_ N3_ I0_ I1_ BB_
  clear b x0 x1 y0 y1 z0 z1 z2 z3 z4 z5
  obtain ⟨x0, x1⟩ := cells2 N0.out
  obtain ⟨y0, y1⟩ := cells2 N1.out
  obtain ⟨z0, z1, z2, z3, z4, z5⟩ := cellsW6 N3.out
  go_wp2_with fail
  refine Calls.mono (wakesN_any _) ?_
  rintro e y2 ⟨rfl, b⟩
  have N0_ := Lib.hid (N0.out.under b)
  have N1_ := Lib.hid (N1.out.under b)
  have N2_ := Lib.hid (N2.out.under b)
  have N3_ := Lib.hid (N3.out.under b)
  have I0_ := Lib.hid (I0.out.up b)
  have I1_ := Lib.hid (I1.out.up b)
  have BB_ := Lib.hid (BB.out.trans (b.mono BB.out.size))
  clear N0 N1 N2 N3 I0 I1 BB
  have N0 := N0_
  have N1 := N1_
  have N2 := N2_
  have N3 := N3_
  have I0 := I0_
  have I1 := I1_
  have BB := BB_
  clear N0_ N1_ N2_ N3_ I0_ I1_ BB_
  clear b
  go_wp2_with fail
  go_ret
  exact ⟨rfl, BB.out⟩

set_option maxRecDepth 100000 in
set_option maxHeartbeats 16000000 in
theorem tells_long (A : Option Addr) (n c : Nat) (A' : Option Addr) (n' c' : Nat) (s : Nt) (B : Option Addr) (m d : Nat) (B' : Option Addr) (m' d' : Nat) (s2 : Nt) (q : Ak) (x : TE) (z : Int) (tells : Bool) (w : World) (hr : NtIn w A n A' n' s) (hr2 : NtIn w B m B' m' s2) (_ : RdSn w w.heap.size x.A x.n x.l) (hg : greatN s = false) (hg2 : greatN s2 = false) (h3 : 60 < x.n) :
    Calls Try.prog 3 #[.agg #[.slice A n c, .slice A' n' c'], .agg #[.slice B m d, .slice B' m' d'], .agg #[.int .u8 q.kind, .int .i64 q.call, .int .i64 q.a, .int .i64 q.b, .int .i64 q.c, .int .i64 q.d], .agg #[.int .i64 x.call, .int .u8 x.kind, .int .u8 x.code, .int .i64 x.id, .slice x.A x.n x.c, .bool x.more], .int .i64 z, .bool tells] w (TruePost w) := by
  have HG := Lib.hid hg
  have HG2 := Lib.hid hg2
  have d3 : decide ((60 : Int) < (x.n : Int)) = true := by simp; omega
  clear hg hg2 h3
  obtain ⟨hb, h0, h1, h2, h3⟩ := four_new w 25 25 27 30 #[.slice A n c, .slice A' n' c'] #[.slice B m d, .slice B' m' d'] #[.int .u8 q.kind, .int .i64 q.call, .int .i64 q.a, .int .i64 q.b, .int .i64 q.c, .int .i64 q.d] #[.int .i64 x.call, .int .u8 x.kind, .int .u8 x.code, .int .i64 x.id, .slice x.A x.n x.c, .bool x.more]
  obtain ⟨V, hV⟩ : ∃ V, (((w.alloc (.cells #[.slice A n c, .slice A' n' c'] 25)).alloc (.cells #[.slice B m d, .slice B' m' d'] 25)).alloc (.cells #[.int .u8 q.kind, .int .i64 q.call, .int .i64 q.a, .int .i64 q.b, .int .i64 q.c, .int .i64 q.d] 27)).alloc (.cells #[.int .i64 x.call, .int .u8 x.kind, .int .u8 x.code, .int .i64 x.id, .slice x.A x.n x.c, .bool x.more] 30) = V := ⟨_, rfl⟩
  rw [hV] at hb h0 h1 h2 h3
  have HV := Lib.hid hV
  have N0 := Lib.hid h0
  have N1 := Lib.hid h1
  have N2 := Lib.hid h2
  have N3 := Lib.hid h3
  have I0 := Lib.hid (hr.up hb)
  have I1 := Lib.hid (hr2.up hb)
  have BB := Lib.hid hb
  clear hV hb h0 h1 h2 h3
  clear hr hr2
  go_enter Try.func3, Try.ntmps3
  go_upto_region 1 with fail
  rw [HV.out]
  clear HV
  obtain ⟨x0, x1⟩ := cells2 N0.out
  obtain ⟨y0, y1⟩ := cells2 N1.out
  obtain ⟨z0, z1, z2, z3, z4, z5⟩ := cellsW6 N3.out
  go_wp2_with fail
  refine Calls.mono (I0.out.great c c') ?_
  rintro e y ⟨rfl, b⟩
  rw [HG.out]
  have N0_ := Lib.hid (N0.out.under b)
  have N1_ := Lib.hid (N1.out.under b)
  have N2_ := Lib.hid (N2.out.under b)
  have N3_ := Lib.hid (N3.out.under b)
  have I0_ := Lib.hid (I0.out.up b)
  have I1_ := Lib.hid (I1.out.up b)
  have BB_ := Lib.hid (BB.out.trans (b.mono BB.out.size))
  clear N0 N1 N2 N3 I0 I1 BB
  have N0 := N0_
  have N1 := N1_
  have N2 := N2_
  have N3 := N3_
  have I0 := I0_
  have I1 := I1_
  have BB := BB_
  clear N0_ N1_ N2_ N3_ I0_ I1_ BB_
  clear b x0 x1 y0 y1 z0 z1 z2 z3 z4 z5
  obtain ⟨x0, x1⟩ := cells2 N0.out
  obtain ⟨y0, y1⟩ := cells2 N1.out
  obtain ⟨z0, z1, z2, z3, z4, z5⟩ := cellsW6 N3.out
  go_wp2_with fail
  refine Calls.mono (I1.out.great d d') ?_
  rintro e y ⟨rfl, b⟩
  rw [HG2.out]
  have N0_ := Lib.hid (N0.out.under b)
  have N1_ := Lib.hid (N1.out.under b)
  have N2_ := Lib.hid (N2.out.under b)
  have N3_ := Lib.hid (N3.out.under b)
  have I0_ := Lib.hid (I0.out.up b)
  have I1_ := Lib.hid (I1.out.up b)
  have BB_ := Lib.hid (BB.out.trans (b.mono BB.out.size))
  clear N0 N1 N2 N3 I0 I1 BB
  have N0 := N0_
  have N1 := N1_
  have N2 := N2_
  have N3 := N3_
  have I0 := I0_
  have I1 := I1_
  have BB := BB_
  clear N0_ N1_ N2_ N3_ I0_ I1_ BB_
  clear b x0 x1 y0 y1 z0 z1 z2 z3 z4 z5
  obtain ⟨x0, x1⟩ := cells2 N0.out
  obtain ⟨y0, y1⟩ := cells2 N1.out
  obtain ⟨z0, z1, z2, z3, z4, z5⟩ := cellsW6 N3.out
  go_wp2_with fail
  refine Calls.mono (wakesN_any _) ?_
  rintro e y2 ⟨rfl, b⟩
  have N0_ := Lib.hid (N0.out.under b)
  have N1_ := Lib.hid (N1.out.under b)
  have N2_ := Lib.hid (N2.out.under b)
  have N3_ := Lib.hid (N3.out.under b)
  have I0_ := Lib.hid (I0.out.up b)
  have I1_ := Lib.hid (I1.out.up b)
  have BB_ := Lib.hid (BB.out.trans (b.mono BB.out.size))
  clear N0 N1 N2 N3 I0 I1 BB
  have N0 := N0_
  have N1 := N1_
  have N2 := N2_
  have N3 := N3_
  have I0 := I0_
  have I1 := I1_
  have BB := BB_
  clear N0_ N1_ N2_ N3_ I0_ I1_ BB_
  clear b
  go_wp2_with fail
  go_ret
  exact ⟨rfl, BB.out⟩

end Go.Proofs.Ytcbbjloojngoiaa
