/-
  The walks of 'own' of package net and of 'tell' of the document's own answers: a tell in memory of its own. Conditions: those that each theorem names.
-/
import Derived.Test.YtcbbjloojngoiaaNtRow
import Derived.Test.YtcbbjloojngoiaaBoxW
namespace Go.Proofs.Ytcbbjloojngoiaa
open Go.RowKit Go.Shelf

/-- A tell's value. -/
def TE.agg (x : TE) : Value := .agg #[.int .i64 x.call, .int .u8 x.kind, .int .u8 x.code, .int .i64 x.id, .slice x.A x.n x.c, .bool x.more]
/-- A tell that reads, of few boxes. -/
structure TeR (w : World) (x : TE) : Prop where
  rd : RdSn w w.heap.size x.A x.n x.l
  few : x.n ≤ 100
theorem TeR.up {w w' : World} {x : TE} (h : TeR w x) (hb : Below w.heap.size w w') : TeR w' x := ⟨(h.rd.below hb).more hb.size, h.few⟩
/-- What comes of it: that tell, with a row of its own. -/
def OwnTPost (x : TE) (w : World) (e : Ending) (w' : World) : Prop :=
  ∃ A c, e = .returned (.agg #[.int .i64 x.call, .int .u8 x.kind, .int .u8 x.code, .int .i64 x.id, .slice A x.n c, .bool x.more]) ∧ w'.ownsRow w.heap.size 51 7 (.slice A x.n c) x.n (flatN x.l) ∧ Below w.heap.size w w'

set_option maxRecDepth 100000 in
set_option maxHeartbeats 1000000 in
theorem ownT_any (x : TE) (w : World) (hr : TeR w x) :
    Calls Try.prog 28 #[x.agg] w (OwnTPost x w) := by
  obtain ⟨call, kind, code, id, A, n, c, more, l⟩ := x
  obtain ⟨hb, h1, h2⟩ := two_new w 30 30 #[.int .i64 call, .int .u8 kind, .int .u8 code, .int .i64 id, .slice A n c, .bool more] #[.int .i64 0, .int .u8 0, .int .u8 0, .int .i64 0, .slice none 0 0, .bool false]
  have hf := hr.few
  simp only at hf
  obtain ⟨v2, W2, hrun, ho, hg⟩ := run_appN ((w.alloc (.cells #[.int .i64 call, .int .u8 kind, .int .u8 code, .int .i64 id, .slice A n c, .bool more] 30)).alloc (.cells #[.int .i64 0, .int .u8 0, .int .u8 0, .int .i64 0, .slice none 0 0, .bool false] 30)) w.heap.size (.slice none 0 0) 0 [] (World.ownsRow_nil _ _ _ _) w.heap.size A n c l (hr.rd.below hb) (by omega) (by omega) (by simp; omega)
  obtain ⟨A2, c2, rfl⟩ := own_formN ho
  rw [Nat.zero_add, List.nil_append] at ho
  rw [Nat.zero_add] at hrun
  have g1 := h1.grown hg (by simp [Value.ownBlock])
  have g2 := h2.grown hg (by simp [Value.ownBlock])
  have hb2 : Below w.heap.size w W2 := hb.grown hg hb.size (by simp [Value.ownBlock])
  obtain ⟨p0, p1, p2, p3, p4, p5⟩ := cellsW6 g1
  have q4 := g1.frozen 4
  obtain ⟨r0, r1, r2, r3, r4, r5⟩ := cellsW6 g2
  have z0 := g2.frozen 0
  have z1 := g2.frozen 1
  have z2 := g2.frozen 2
  have z3 := g2.frozen 3
  have z4 := g2.frozen 4
  have z5 := g2.frozen 5
  have HR := Lib.hid hrun
  have HO := Lib.hid ho
  have HB := Lib.hid hb2
  have G1 := Lib.hid g1
  have G2 := Lib.hid g2
  clear hr hb h1 h2 hf hrun ho hg g1 g2 hb2
  unfold TE.agg
  simp only
  go_enter Try.func28, Try.ntmps28
  go_wp2_with (refine wpList_app (by rfl) _ _ 28 rfl _ _ _ W2 (by rfl) (by rfl) HR.out ?_)
  have k1 := Only.set W2 w.heap.size 4 (.slice A2 n c2)
  obtain ⟨e2, k2⟩ := put6 (k1.far G2.out (by omega)) (.int .i64 call) (.int .u8 kind) (.int .u8 code) (.int .i64 id) (.slice A2 n c2) (.bool more)
  obtain ⟨y0, y1, y2, y3, y4, y5⟩ := cellsW6 e2
  refine bodyPost_ret (v := .agg #[.int .i64 call, .int .u8 kind, .int .u8 code, .int .i64 id, .slice A2 n c2, .bool more]) (by simp [results, Try.results28, go_sem, y0, y1, y2, y3, y4, y5]) rfl ⟨A2, c2, rfl, ?_, k2.bel (k1.bel HB.out (Nat.le_refl _)) (by omega)⟩
  exact k2.own (k1.own HO.out G1.out (by decide)) (k1.far G2.out (by omega)) (by decide)

set_option maxRecDepth 100000 in
set_option maxHeartbeats 1000000 in
theorem tellT_any (x : TE) (w : World) (hr : TeR w x) :
    Calls Try.prog 29 #[x.agg] w (OwnTPost x w) := by
  obtain ⟨call, kind, code, id, A, n, c, more, l⟩ := x
  obtain ⟨hb, h1, h2⟩ := two_new w 30 30 #[.int .i64 call, .int .u8 kind, .int .u8 code, .int .i64 id, .slice A n c, .bool more] #[.int .i64 0, .int .u8 0, .int .u8 0, .int .i64 0, .slice none 0 0, .bool false]
  have hf := hr.few
  simp only at hf
  have hVs : ((w.alloc (.cells #[.int .i64 call, .int .u8 kind, .int .u8 code, .int .i64 id, .slice A n c, .bool more] 30)).alloc (.cells #[.int .i64 0, .int .u8 0, .int .u8 0, .int .i64 0, .slice none 0 0, .bool false] 30)).heap.size = w.heap.size + 1 + 1 := by simp
  have ho0 := World.ownsRow_made (base := w.heap.size) (e := 51) (size := 7) ((w.alloc (.cells #[.int .i64 call, .int .u8 kind, .int .u8 code, .int .i64 id, .slice A n c, .bool more] 30)).alloc (.cells #[.int .i64 0, .int .u8 0, .int .u8 0, .int .i64 0, .slice none 0 0, .bool false] 30)) #[] 0 (by omega) (Nat.zero_le _) rfl
  have b3 := (Below.refl ((w.alloc (.cells #[.int .i64 call, .int .u8 kind, .int .u8 code, .int .i64 id, .slice A n c, .bool more] 30)).alloc (.cells #[.int .i64 0, .int .u8 0, .int .u8 0, .int .i64 0, .slice none 0 0, .bool false] 30)).heap.size ((w.alloc (.cells #[.int .i64 call, .int .u8 kind, .int .u8 code, .int .i64 id, .slice A n c, .bool more] 30)).alloc (.cells #[.int .i64 0, .int .u8 0, .int .u8 0, .int .i64 0, .slice none 0 0, .bool false] 30))).alloc (Nat.le_refl _) (.cells #[] 51)
  obtain ⟨v2, W2, hrun, ho, hg⟩ := run_appN (((w.alloc (.cells #[.int .i64 call, .int .u8 kind, .int .u8 code, .int .i64 id, .slice A n c, .bool more] 30)).alloc (.cells #[.int .i64 0, .int .u8 0, .int .u8 0, .int .i64 0, .slice none 0 0, .bool false] 30)).alloc (.cells #[] 51)) w.heap.size _ 0 [] ho0 w.heap.size A n c l (hr.rd.below (hb.trans (b3.mono hb.size))) (by omega) (by omega) (by simp; omega)
  obtain ⟨A2, c2, rfl⟩ := own_formN ho
  rw [Nat.zero_add, List.nil_append] at ho
  rw [Nat.zero_add] at hrun
  have g1 := (h1.under b3).grown hg (by simp [Value.ownBlock] <;> omega)
  have g2 := (h2.under b3).grown hg (by simp [Value.ownBlock] <;> omega)
  have hb2 : Below w.heap.size w W2 := (hb.trans (b3.mono hb.size)).grown hg (by simp; omega) (by simp [Value.ownBlock] <;> omega)
  obtain ⟨p0, p1, p2, p3, p4, p5⟩ := cellsW6 g1
  obtain ⟨s0, s1, s2, s3, s4, s5⟩ := cellsW6 (h1.under b3)
  have q4 := g1.frozen 4
  obtain ⟨r0, r1, r2, r3, r4, r5⟩ := cellsW6 g2
  have z0 := g2.frozen 0
  have z1 := g2.frozen 1
  have z2 := g2.frozen 2
  have z3 := g2.frozen 3
  have z4 := g2.frozen 4
  have z5 := g2.frozen 5
  have HR := Lib.hid hrun
  have HO := Lib.hid ho
  have HB := Lib.hid hb2
  have G1 := Lib.hid g1
  have G2 := Lib.hid g2
  clear hr hb h1 h2 hf hrun ho hg g1 g2 hb2 ho0 b3
  unfold TE.agg
  simp only
  go_enter Try.func29, Try.ntmps29
  rw [hVs] at HR
  clear hVs
  go_wp2_with (refine wpList_app (by rfl) _ _ 28 rfl _ _ _ W2 (by rfl) (by rfl) HR.out ?_)
  have k1 := Only.set W2 w.heap.size 4 (.slice A2 n c2)
  obtain ⟨e2, k2⟩ := put6 (k1.far G2.out (by omega)) (.int .i64 call) (.int .u8 kind) (.int .u8 code) (.int .i64 id) (.slice A2 n c2) (.bool more)
  obtain ⟨y0, y1, y2, y3, y4, y5⟩ := cellsW6 e2
  refine bodyPost_ret (v := .agg #[.int .i64 call, .int .u8 kind, .int .u8 code, .int .i64 id, .slice A2 n c2, .bool more]) (by simp [results, Try.results29, go_sem, y0, y1, y2, y3, y4, y5]) rfl ⟨A2, c2, rfl, ?_, k2.bel (k1.bel HB.out (Nat.le_refl _)) (by omega)⟩
  exact k2.own (k1.own HO.out G1.out (by decide)) (k1.far G2.out (by omega)) (by decide)

end Go.Proofs.Ytcbbjloojngoiaa
