/-
  The walk of 'Twice' of package net. Conditions: those that each theorem names.
-/
import Derived.Test.YtcbbjloojngoiaaNtAgainK
import Derived.Test.YtcbbjloojngoiaaNtAgainT
namespace Go.Proofs.Ytcbbjloojngoiaa
open Go.RowKit Go.Shelf

set_option maxRecDepth 100000 in
set_option maxHeartbeats 2000000 in
theorem twice_any (A : Option Addr) (n c : Nat) (A' : Option Addr) (n' c' : Nat) (s : Nt) (z : Int) (tells : Bool) (w : World) (hr : NtR w A n A' n' s) :
    Calls Try.prog 22 #[.agg #[.slice A n c, .slice A' n' c'], .int .i64 z, .bool tells] w (SendPost (twiceN s z tells) (twiceE s tells) w) := by
  obtain ⟨hb, h1, h2⟩ := two_new w 25 25 #[.slice A n c, .slice A' n' c'] #[.slice none 0 0, .slice none 0 0]
  obtain ⟨V, hV⟩ : ∃ V, (w.alloc (.cells #[.slice A n c, .slice A' n' c'] 25)).alloc (.cells #[.slice none 0 0, .slice none 0 0] 25) = V := ⟨_, rfl⟩
  have hs : V.heap.size = w.heap.size + 1 + 1 := by rw [← hV]; simp
  rw [hV] at hb h1 h2
  obtain ⟨n0, n1⟩ := cells2 h1
  have HV := Lib.hid hV
  have HR := Lib.hid (hr.up hb)
  have HB := Lib.hid hb
  have H2 := Lib.hid h2
  have HS := Lib.hid hs
  clear hV hr hb h1 h2 hs
  cases tells with
  | true =>
    go_enter Try.func22, Try.ntmps22
    go_wp2_with fail
    rw [HV.out]
    clear HV
    refine (againT_any _ _ _ _ _ _ s z V HR.out).mono ?_
    rintro e w1 ⟨A1, c1, A2, c2, rfl, o1, b1⟩
    have i2 := H2.out.under b1
    obtain ⟨r0, r1⟩ := cells2 i2
    have p0 := i2.frozen 0
    have p1 := i2.frozen 1
    have I2 := Lib.hid i2
    have O1 := Lib.hid o1
    have B1 := Lib.hid b1
    clear i2 o1 b1 n0 n1
    go_wp2_with fail
    obtain ⟨e5, k5⟩ := put2 I2.out (.slice A1 (twiceN s z true).ks.length c1) (.slice A2 (twiceN s z true).ts.length c2)
    obtain ⟨x0, x1⟩ := cells2 e5
    refine bodyPost_ret (v := .tuple #[.agg #[.slice A1 (twiceN s z true).ks.length c1, .slice A2 (twiceN s z true).ts.length c2], .int .i64 (twiceE s true)]) (by simp [results, Try.results22, go_sem, x0, x1]) rfl ⟨A1, c1, A2, c2, rfl, ?_, k5.bel (HB.out.trans (B1.out.mono HB.out.size)) (by omega)⟩
    exact (O1.out.only k5 I2.out (by decide) (by decide) (by decide)).weaker (by have := HS.out; omega)
  | false =>
    go_enter Try.func22, Try.ntmps22
    go_wp2_with fail
    rw [HV.out]
    clear HV
    refine (againK_any _ _ _ _ _ _ s z V HR.out).mono ?_
    rintro e w1 ⟨A1, c1, A2, c2, rfl, o1, b1⟩
    have i2 := H2.out.under b1
    obtain ⟨r0, r1⟩ := cells2 i2
    have p0 := i2.frozen 0
    have p1 := i2.frozen 1
    have I2 := Lib.hid i2
    have O1 := Lib.hid o1
    have B1 := Lib.hid b1
    clear i2 o1 b1 n0 n1
    go_wp2_with fail
    obtain ⟨e5, k5⟩ := put2 I2.out (.slice A1 (twiceN s z false).ks.length c1) (.slice A2 (twiceN s z false).ts.length c2)
    obtain ⟨x0, x1⟩ := cells2 e5
    refine bodyPost_ret (v := .tuple #[.agg #[.slice A1 (twiceN s z false).ks.length c1, .slice A2 (twiceN s z false).ts.length c2], .int .i64 (twiceE s false)]) (by simp [results, Try.results22, go_sem, x0, x1]) rfl ⟨A1, c1, A2, c2, rfl, ?_, k5.bel (HB.out.trans (B1.out.mono HB.out.size)) (by omega)⟩
    exact (O1.out.only k5 I2.out (by decide) (by decide) (by decide)).weaker (by have := HS.out; omega)

end Go.Proofs.Ytcbbjloojngoiaa
