/-
  The walks of 'put' of package net at asks and at tells, and of the places of a row, the program's and the document's own. Conditions: those that each theorem names.
-/
import Derived.Test.YtcbbjloojngoiaaNtNet
namespace Go.Proofs.Ytcbbjloojngoiaa
open Go.RowKit Go.Shelf

theorem fullE_yes {n : Nat} (h : 60 ≤ n) : fullE n = 110 := by simp [fullE, h]
theorem fullE_no {n : Nat} (h : n < 60) : fullE n = 0 := by simp [fullE]; omega

/-- What comes of it where there is room. -/
def MoreK (base : Nat) (l : List Ak) (q : Ak) (w : World) (e : Ending) (w' : World) : Prop :=
  ∃ A' c', e = .returned (.tuple #[.slice A' (l.length + 1) c', .int .i64 0]) ∧ AsksAt base w' (.slice A' (l.length + 1) c') (l ++ [q]) ∧ Below base w w' ∧ (∀ b t cs, Whole w b t cs → 27 ≠ t → Whole w' b t cs) ∧ (∀ base' v L, TellsAt base' w v L → TellsAt base' w' v L)
set_option maxRecDepth 100000 in
set_option maxHeartbeats 1000000 in
theorem putK_more (base : Nat) (A : Option Addr) (c : Nat) (l : List Ak) (q : Ak) (w : World) (h : AsksAt base w (.slice A l.length c) l) (hl : l.length < 60) (hbase : base ≤ w.heap.size) :
    Calls Try.prog 26 #[.slice A l.length c, .agg #[.int .u8 q.kind, .int .i64 q.call, .int .i64 q.a, .int .i64 q.b, .int .i64 q.c, .int .i64 q.d]] w (MoreK base l q w) := by
  have bA := (Below.refl w.heap.size w).alloc (Nat.le_refl _) (.cells #[.int .u8 q.kind, .int .i64 q.call, .int .i64 q.a, .int .i64 q.b, .int .i64 q.c, .int .i64 q.d] 27)
  obtain ⟨A2, c2, W2, hrun, ho2, hb2, _, hw2, ht2⟩ := asks_put (w.alloc (.cells #[.int .u8 q.kind, .int .i64 q.call, .int .i64 q.a, .int .i64 q.b, .int .i64 q.c, .int .i64 q.d] 27)) base _ _ (h.under bA) q (by omega) (by simp; omega) (w.heap.size + 1) (by simp)
  have HRun := Lib.hid hrun
  have HP : Hid (MoreK base l q w (.returned (.tuple #[.slice A2 (l.length + 1) c2, .int .i64 0])) W2) := Lib.hid ⟨A2, c2, rfl, ho2, (bA.mono hbase).trans hb2, fun b t cs hw hne => hw2 b t cs (hw.under bA) hne, fun base' v L ht => ht2 base' v L (ht.under bA)⟩
  have dle : decide ((60 : Int) ≤ (l.length : Int)) = false := by simp; omega
  clear hrun ho2 hb2 hw2 ht2 bA h
  obtain ⟨k, hk⟩ : ∃ k, l.length = k := ⟨_, rfl⟩
  rw [hk] at HRun dle HP ⊢
  clear hk
  go_enter Try.func26, Try.ntmps26
  go_wp2_with (refine wpList_app (by rfl) _ _ 22 rfl _ _ _ W2 (by rfl) (by rfl) HRun.out ?_)
  refine bodyPost_ret (v := .tuple #[.slice A2 (k + 1) c2, .int .i64 0]) (by simp [results, Try.results26, go_sem]) rfl ?_
  exact HP.out

set_option maxRecDepth 100000 in
theorem putK_full (A : Option Addr) (n c : Nat) (q : Ak) (w : World) (hl : 60 ≤ n) :
    Calls Try.prog 26 #[.slice A n c, .agg #[.int .u8 q.kind, .int .i64 q.call, .int .i64 q.a, .int .i64 q.b, .int .i64 q.c, .int .i64 q.d]] w fun e w' => e = .returned (.tuple #[.slice A n c, .int .i64 110]) ∧ w' = w.alloc (.cells #[.int .u8 q.kind, .int .i64 q.call, .int .i64 q.a, .int .i64 q.b, .int .i64 q.c, .int .i64 q.d] 27) := by
  have dle : decide ((60 : Int) ≤ (n : Int)) = true := by simp; omega
  go_enter Try.func26, Try.ntmps26
  go_wp2_with fail
  refine bodyPost_ret (v := .tuple #[.slice A n c, .int .i64 110]) (by simp [results, Try.results26, go_sem]) rfl ?_
  exact ⟨rfl, rfl⟩

/-- What comes of it where there is room. -/
def MoreT (base : Nat) (L : List Tl) (t : Tl) (w : World) (e : Ending) (w' : World) : Prop :=
  ∃ A' c', e = .returned (.tuple #[.slice A' (L.length + 1) c', .int .i64 0]) ∧ TellsAt base w' (.slice A' (L.length + 1) c') (L ++ [t]) ∧ Below base w w' ∧ (∀ b t cs, Whole w b t cs → 30 ≠ t → Whole w' b t cs) ∧ (∀ base' v l, AsksAt base' w v l → AsksAt base' w' v l)
set_option maxRecDepth 100000 in
set_option maxHeartbeats 1000000 in
theorem putT_more (base : Nat) (A : Option Addr) (c : Nat) (L : List Tl) (x : TE) (w : World) (h : TellsAt base w (.slice A L.length c) L) (ho : w.ownsRow base 51 7 x.val x.n (flatN x.l)) (hl : L.length < 60) (hbase : base ≤ w.heap.size) :
    Calls Try.prog 27 #[.slice A L.length c, .agg #[.int .i64 x.call, .int .u8 x.kind, .int .u8 x.code, .int .i64 x.id, .slice x.A x.n x.c, .bool x.more]] w (MoreT base L x.t w) := by
  have bA := (Below.refl w.heap.size w).alloc (Nat.le_refl _) (.cells #[.int .i64 x.call, .int .u8 x.kind, .int .u8 x.code, .int .i64 x.id, .slice x.A x.n x.c, .bool x.more] 30)
  obtain ⟨A2, c2, W2, hrun, ho2, hb2, _, hw2, ht2⟩ := tells_put (w.alloc (.cells #[.int .i64 x.call, .int .u8 x.kind, .int .u8 x.code, .int .i64 x.id, .slice x.A x.n x.c, .bool x.more] 30)) base _ _ (h.under bA) x (own_under ho bA) (by omega) (by simp; omega) (w.heap.size + 1) (by simp)
  have HRun := Lib.hid hrun
  have HP : Hid (MoreT base L x.t w (.returned (.tuple #[.slice A2 (L.length + 1) c2, .int .i64 0])) W2) := Lib.hid ⟨A2, c2, rfl, ho2, (bA.mono hbase).trans hb2, fun b t cs hw hne => hw2 b t cs (hw.under bA) (.inl hne), fun base' v l ha => ht2 base' v l (ha.under bA)⟩
  have dle : decide ((60 : Int) ≤ (L.length : Int)) = false := by simp; omega
  clear hrun ho2 hb2 hw2 ht2 bA h ho
  obtain ⟨k, hk⟩ : ∃ k, L.length = k := ⟨_, rfl⟩
  rw [hk] at HRun dle HP ⊢
  clear hk
  go_enter Try.func27, Try.ntmps27
  go_wp2_with (refine wpList_app (by rfl) _ _ 23 rfl _ _ _ W2 (by rfl) (by rfl) HRun.out ?_)
  refine bodyPost_ret (v := .tuple #[.slice A2 (k + 1) c2, .int .i64 0]) (by simp [results, Try.results27, go_sem]) rfl ?_
  exact HP.out
set_option maxRecDepth 100000 in
theorem putT_full (A : Option Addr) (n c : Nat) (x : TE) (w : World) (hl : 60 ≤ n) :
    Calls Try.prog 27 #[.slice A n c, .agg #[.int .i64 x.call, .int .u8 x.kind, .int .u8 x.code, .int .i64 x.id, .slice x.A x.n x.c, .bool x.more]] w fun e w' => e = .returned (.tuple #[.slice A n c, .int .i64 110]) ∧ w' = w.alloc (.cells #[.int .i64 x.call, .int .u8 x.kind, .int .u8 x.code, .int .i64 x.id, .slice x.A x.n x.c, .bool x.more] 30) := by
  have dle : decide ((60 : Int) ≤ (n : Int)) = true := by simp; omega
  go_enter Try.func27, Try.ntmps27
  go_wp2_with fail
  refine bodyPost_ret (v := .tuple #[.slice A n c, .int .i64 110]) (by simp [results, Try.results27, go_sem]) rfl ?_
  exact ⟨rfl, rfl⟩

theorem wrap64_mid {z : Int} (h0 : -1000000 ≤ z) (h1 : z ≤ 1000000) : wrap64 z = z := by
  unfold wrap64
  omega
theorem place_any (z : Int) (n : Nat) (h0 : 0 < n) (hn : n ≤ 1000) (w : World) :
    Calls Try.prog 43 #[.int .i64 z, .int .i64 (n : Int)] w fun e w' => e = .returned (.int .i64 (placeN z n : Int)) ∧ w' = w := by
  have hz : ((n : Int) == 0) = false := by simp; omega
  have hw : wrap64 (z.tmod n + n) = z.tmod n + n := by
    obtain ⟨h1, h2⟩ := tmod_bounds h0 z
    exact wrap64_mid (by omega) (by omega)
  go_enter Try.func43, Try.ntmps43
  go_wp2_with fail
  go_ret
  exact ⟨by rw [hw, placeN_twice h0]; rfl, rfl⟩
theorem refPlace_any (z : Int) (n : Nat) (h0 : 0 < n) (hn : n ≤ 1000) (w : World) :
    Calls Try.prog 36 #[.int .i64 z, .int .i64 (n : Int)] w fun e w' => e = .returned (.int .i64 (placeN z n : Int)) ∧ w' = w := by
  have hz : ((n : Int) == 0) = false := by simp; omega
  have hw : wrap64 (z.tmod n + n) = z.tmod n + n := by
    obtain ⟨h1, h2⟩ := tmod_bounds h0 z
    exact wrap64_mid (by omega) (by omega)
  go_enter Try.func36, Try.ntmps36
  go_wp2_with fail
  go_ret
  exact ⟨by rw [hw, placeN_twice h0]; rfl, rfl⟩

end Go.Proofs.Ytcbbjloojngoiaa
