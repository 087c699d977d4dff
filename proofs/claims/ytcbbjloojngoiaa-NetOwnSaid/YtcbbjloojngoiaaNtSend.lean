/-
  The walk of 'Send' of package net. Conditions: those that each theorem names.
-/
import Derived.Test.YtcbbjloojngoiaaNtOwn
import Derived.Test.YtcbbjloojngoiaaNtPut
namespace Go.Proofs.Ytcbbjloojngoiaa
open Go.RowKit Go.Shelf

/-- What comes of a call: that, in memory of its own, and an error's number. -/
def SendPost (s : Nt) (er : Int) (w : World) (e : Ending) (w' : World) : Prop :=
  ∃ A c A' c', e = .returned (.tuple #[.agg #[.slice A s.ks.length c, .slice A' s.ts.length c'], .int .i64 er]) ∧ NtO w.heap.size w' A c A' c' s ∧ Below w.heap.size w w'
theorem sendN_more {s : Nt} {q : Ak} (h : s.ks.length < 60) : sendN s q = ⟨s.ks ++ [q], s.ts⟩ := by rw [sendN, if_neg (by omega)]
theorem sendN_full {s : Nt} {q : Ak} (h : 60 ≤ s.ks.length) : sendN s q = s := by rw [sendN, if_pos h]
theorem postN_more {s : Nt} {t : Tl} (h : s.ts.length < 60) : postN s t = ⟨s.ks, s.ts ++ [t]⟩ := by rw [postN, if_neg (by omega)]
theorem postN_full {s : Nt} {t : Tl} (h : 60 ≤ s.ts.length) : postN s t = s := by rw [postN, if_pos h]

set_option maxRecDepth 100000 in
set_option maxHeartbeats 2000000 in
theorem send_any (A : Option Addr) (n c : Nat) (A' : Option Addr) (n' c' : Nat) (s : Nt) (q : Ak) (w : World) (hr : NtR w A n A' n' s) :
    Calls Try.prog 10 #[.agg #[.slice A n c, .slice A' n' c'], .agg #[.int .u8 q.kind, .int .i64 q.call, .int .i64 q.a, .int .i64 q.b, .int .i64 q.c, .int .i64 q.d]] w (SendPost (sendN s q) (fullE s.ks.length) w) := by
  obtain ⟨hb, h1, h2, h3⟩ := three_new w 25 27 25 #[.slice A n c, .slice A' n' c'] #[.int .u8 q.kind, .int .i64 q.call, .int .i64 q.a, .int .i64 q.b, .int .i64 q.c, .int .i64 q.d] #[.slice none 0 0, .slice none 0 0]
  obtain ⟨V, hV⟩ : ∃ V, ((w.alloc (.cells #[.slice A n c, .slice A' n' c'] 25)).alloc (.cells #[.int .u8 q.kind, .int .i64 q.call, .int .i64 q.a, .int .i64 q.b, .int .i64 q.c, .int .i64 q.d] 27)).alloc (.cells #[.slice none 0 0, .slice none 0 0] 25) = V := ⟨_, rfl⟩
  have hs : V.heap.size = w.heap.size + 1 + 1 + 1 := by rw [← hV]; simp
  rw [hV] at hb h1 h2 h3
  have HV := Lib.hid hV
  have HR := Lib.hid (hr.up hb)
  have HB := Lib.hid hb
  have H1 := Lib.hid h1
  have H2 := Lib.hid h2
  have H3 := Lib.hid h3
  have HS := Lib.hid hs
  clear hV hr hb h1 h2 h3 hs
  obtain ⟨s', hs'⟩ : ∃ s', sendN s q = s' := ⟨_, rfl⟩
  obtain ⟨er, he'⟩ : ∃ er, fullE s.ks.length = er := ⟨_, rfl⟩
  rw [hs', he']
  have HS' := Lib.hid hs'
  have HE' := Lib.hid he'
  clear hs' he'
  go_enter Try.func10, Try.ntmps10
  go_wp2_with fail
  rw [HV.out]
  clear HV
  refine (ownN_any A n c A' n' c' s V HR.out).mono ?_
  rintro e w1 ⟨A1, c1, A2, c2, rfl, o1, b1⟩
  have i1 := H1.out.under b1
  have i2 := H2.out.under b1
  have i3 := H3.out.under b1
  obtain ⟨n0, n1⟩ := cells2 i1
  have p0 := i1.frozen 0
  have p1 := i1.frozen 1
  obtain ⟨a0, a1, a2, a3, a4, a5⟩ := cellsW6 i2
  have I1 := Lib.hid i1
  have I2 := Lib.hid i2
  have I3 := Lib.hid i3
  have O1 := Lib.hid o1
  have B1 := Lib.hid b1
  clear i1 i2 i3 o1 b1 H1 H2 H3
  go_wp2_with fail
  obtain ⟨e2, k2⟩ := put2 I1.out (.slice A1 s.ks.length c1) (.slice A2 s.ts.length c2)
  obtain ⟨X, hX⟩ : ∃ X, (w1.setCell ⟨w.heap.size, 0, none⟩ (.slice A1 s.ks.length c1)).setCell ⟨w.heap.size, 1, none⟩ (.slice A2 s.ts.length c2) = X := ⟨_, rfl⟩
  rw [hX] at e2 k2 ⊢
  clear hX n0 n1 p0 p1 a0 a1 a2 a3 a4 a5
  have o2 := O1.out.only k2 I1.out (by decide) (by decide) (by decide)
  have x2 := k2.far I2.out (by omega)
  have x3 := k2.far I3.out (by omega)
  have bX : Below w.heap.size w X := k2.bel (HB.out.trans (B1.out.mono HB.out.size)) (Nat.le_refl _)
  have sX : w.heap.size + 1 + 1 + 1 ≤ X.heap.size := by rw [k2.size]; have := B1.out.size; have := HS.out; omega
  have E2 := Lib.hid e2
  have O2 := Lib.hid o2
  have X3 := Lib.hid x3
  have BX := Lib.hid bX
  have SX := Lib.hid sX
  clear e2 k2 o2 x2 x3 bX sX I1 I2 I3 O1 B1
  rcases Nat.lt_or_ge s.ks.length 60 with hlt | hge
  · obtain rfl := (sendN_more hlt).symm.trans HS'.out
    obtain rfl := (fullE_no hlt).symm.trans HE'.out
    refine (putK_more V.heap.size A1 c1 s.ks q X O2.out.ks hlt (by have := SX.out; have := HS.out; omega)).mono ?_
    rintro e w2 ⟨A3, c3, rfl, o3, b3, h3, t3⟩
    have j1 := h3 _ _ _ E2.out (by decide)
    have j3 := h3 _ _ _ X3.out (by decide)
    have T3 := Lib.hid (t3 _ _ _ O2.out.ts)
    obtain ⟨n0, n1⟩ := cells2 j1
    have p0 := j1.frozen 0
    obtain ⟨r0, r1⟩ := cells2 j3
    have q0 := j3.frozen 0
    have q1 := j3.frozen 1
    have J1 := Lib.hid j1
    have J3 := Lib.hid j3
    have O3 := Lib.hid o3
    have B3 := Lib.hid b3
    clear j1 j3 o3 b3 h3 t3
    go_wp2_with fail
    have k4 := Only.set w2 w.heap.size 0 (.slice A3 (s.ks.length + 1) c3)
    have J4 := k4.far J3.out (by omega)
    obtain ⟨e5, k5⟩ := put2 J4 (.slice A3 (s.ks.length + 1) c3) (.slice A2 s.ts.length c2)
    obtain ⟨y0, y1⟩ := cells2 e5
    have h5 : Below w.heap.size w w2 := BX.out.trans (B3.out.mono (by have := HS.out; omega))
    refine bodyPost_ret (v := .tuple #[.agg #[.slice A3 (s.ks.length + 1) c3, .slice A2 s.ts.length c2], .int .i64 0]) (by simp [results, Try.results10, go_sem, y0, y1]) rfl ⟨A3, c3, A2, c2, by simp, ⟨?_, ?_⟩, k5.bel (k4.bel h5 (Nat.le_refl _)) (by omega)⟩
    · simp only [List.length_append, List.length_cons, List.length_nil, Nat.zero_add]
      exact ((O3.out.only k4 J1.out (by decide)).only k5 J4 (by decide)).weaker (by have := HS.out; omega)
    · exact ((T3.out.only k4 J1.out (by decide) (by decide)).only k5 J4 (by decide) (by decide)).weaker (by have := HS.out; omega)
  · obtain rfl := (sendN_full hge).symm.trans HS'.out
    obtain rfl := (fullE_yes hge).symm.trans HE'.out
    refine (putK_full A1 s.ks.length c1 q X hge).mono ?_
    rintro e w2 ⟨rfl, rfl⟩
    have bA := (Below.refl X.heap.size X).alloc (Nat.le_refl _) (.cells #[.int .u8 q.kind, .int .i64 q.call, .int .i64 q.a, .int .i64 q.b, .int .i64 q.c, .int .i64 q.d] 27)
    obtain ⟨Y, hY⟩ : ∃ Y, X.alloc (.cells #[.int .u8 q.kind, .int .i64 q.call, .int .i64 q.a, .int .i64 q.b, .int .i64 q.c, .int .i64 q.d] 27) = Y := ⟨_, rfl⟩
    rw [hY] at bA ⊢
    clear hY
    have j1 := E2.out.under bA
    have j3 := X3.out.under bA
    obtain ⟨n0, n1⟩ := cells2 j1
    have p0 := j1.frozen 0
    obtain ⟨r0, r1⟩ := cells2 j3
    have q0 := j3.frozen 0
    have q1 := j3.frozen 1
    have J1 := Lib.hid j1
    have J3 := Lib.hid j3
    have BA := Lib.hid bA
    have O3 := Lib.hid (O2.out.under bA)
    clear j1 j3 bA
    go_wp2_with fail
    have k4 := Only.set Y w.heap.size 0 (.slice A1 s.ks.length c1)
    have J4 := k4.far J3.out (by omega)
    obtain ⟨e5, k5⟩ := put2 J4 (.slice A1 s.ks.length c1) (.slice A2 s.ts.length c2)
    obtain ⟨y0, y1⟩ := cells2 e5
    have h5 : Below w.heap.size w Y := BX.out.trans (BA.out.mono BX.out.size)
    refine bodyPost_ret (v := .tuple #[.agg #[.slice A1 s.ks.length c1, .slice A2 s.ts.length c2], .int .i64 110]) (by simp [results, Try.results10, go_sem, y0, y1]) rfl ⟨A1, c1, A2, c2, rfl, ?_, k5.bel (k4.bel h5 (Nat.le_refl _)) (by omega)⟩
    exact ((O3.out.only k4 J1.out (by decide) (by decide) (by decide)).only k5 J4 (by decide) (by decide) (by decide)).weaker (by have := HS.out; omega)

end Go.Proofs.Ytcbbjloojngoiaa
