/-
  What the walk of the statement NetOnce leans on: rows of one's own that grow next to others, small sums, what stands between two rounds. Conditions: those that each theorem names.
-/
import Derived.Test.YtcbbjloojngoiaaNtLawKit
import Derived.Test.YtcbbjloojngoiaaRegT
namespace Go.Proofs.Ytcbbjloojngoiaa
open Go.RowKit Go.Shelf

/-- One's own rows that stand make a way that stands. -/
theorem NtO.of {y X : World} {base : Nat} {A A' : Option Addr} {c c' : Nat} {s : Nt} (h : NtO base y A c A' c' s) (k : ∀ (base sz n : Nat) (e : TypeId) (v : Value) (xs : List Value), y.ownsRow base e sz v n xs → e ≠ 25 → X.ownsRow base e sz v n xs) : NtO base X A c A' c' s := by
  refine ⟨k _ _ _ _ _ _ h.ks (by decide), ?_⟩
  obtain ⟨es, v1, v2, v3⟩ := h.ts
  exact ⟨es, k _ _ _ _ _ _ v1 (by decide), v2, fun y hy => k _ _ _ _ _ _ (v3 y hy) (by decide)⟩
theorem put_old {y : World} {g : Nat} {u0 u1 : Value} (P : Whole y g 25 #[u0, u1]) (v0 v1 : Value) {X : World} (hX : (y.setCell ⟨g, 0, none⟩ v0).setCell ⟨g, 1, none⟩ v1 = X) :
    Whole X g 25 #[v0, v1] ∧ (∀ (b : Nat) (t : TypeId) (cs : Array Value), Whole y b t cs → b ≠ g → Whole X b t cs) ∧ (∀ (B : Nat) (w0 : World), Below B w0 y → B ≤ g → Below B w0 X) ∧ (∀ (base sz n : Nat) (e : TypeId) (v : Value) (xs : List Value), y.ownsRow base e sz v n xs → e ≠ 25 → X.ownsRow base e sz v n xs) := by
  obtain ⟨p1, k1⟩ := put2 P v0 v1
  rw [hX] at p1 k1
  exact ⟨p1, fun b t cs h hb => k1.far h hb, fun B w0 h h1 => k1.bel h h1, fun base sz n e v xs h he => k1.own h P he⟩

theorem own_lt {w : World} {base sz n : Nat} {e : TypeId} {v : Value} {xs : List Value} (h : w.ownsRow base e sz v n xs) : ∀ g, v.ownBlock = some g → g < w.heap.size := by
  intro g hg
  rcases h.2 with ⟨rfl, _⟩ | ⟨g', cap, cur, rfl, hb, h1, _⟩
  · simp [Value.ownBlock] at hg
  · simp only [Value.ownBlock, Option.some.injEq] at hg
    subst hg
    exact (Array.getElem?_eq_some_iff.1 h1).1
/-- A row in newer memory stands while an older one grows. -/
theorem own_newer {w w' : World} {base sz n B : Nat} {e : TypeId} {v u : Value} {xs : List Value} (h : w.ownsRow base e sz u n xs) (hB : B ≤ base) (hv : ∀ g, v.ownBlock = some g → g < B) (hg : w.grownBy w' v.ownBlock) : w'.ownsRow base e sz u n xs :=
  h.kept hg (by
    rcases h.2 with ⟨rfl, _⟩ | ⟨g', cap, cur, rfl, hb, h1, _⟩
    · exact .inl rfl
    · right
      intro e0
      have := hv g' (by rw [← e0]; rfl)
      omega)
theorem once_asks (w : World) (base : Nat) (v : Value) (l : List Ak) (h : AsksAt base w v l) (q : Ak) (hl : l.length ≤ 1000) (hbase : base ≤ w.heap.size) (b : Nat) (hb : w.heap.size = b) (B : Nat) (hB : ∀ g, v.ownBlock = some g → g < B) :
    ∃ A' c' w', (Builtin.append_ #[22, 22] 22 #[v, .slice (some ⟨b, 0, none⟩) 1 1]).run Try.prog (w.alloc (.cells #[.int .u8 q.kind, .int .i64 q.call, .int .i64 q.a, .int .i64 q.b, .int .i64 q.c, .int .i64 q.d] 27)) = .ok (.slice A' (l.length + 1) c') w' ∧ AsksAt base w' (.slice A' (l.length + 1) c') (l ++ [q]) ∧ Below base w w' ∧ (∀ b t cs, Whole w b t cs → 27 ≠ t → Whole w' b t cs) ∧ (∀ base' v L, TellsAt base' w v L → TellsAt base' w' v L) ∧ (∀ base' v l, B ≤ base' → AsksAt base' w v l → AsksAt base' w' v l) := by
  have bA := (Below.refl w.heap.size w).alloc (Nat.le_refl _) (.cells #[.int .u8 q.kind, .int .i64 q.call, .int .i64 q.a, .int .i64 q.b, .int .i64 q.c, .int .i64 q.d] 27)
  obtain ⟨A', c', w', h1, h2, h3, h4⟩ := asks_app (w.alloc (.cells #[.int .u8 q.kind, .int .i64 q.call, .int .i64 q.a, .int .i64 q.b, .int .i64 q.c, .int .i64 q.d] 27)) base v l (h.under bA) _ _ 1 1 [q] (rdK_one w q b hb) (by omega) (by simp; omega)
  refine ⟨A', c', w', h1, h2, (bA.mono hbase).trans (below_row (h.under bA) h3 (by simp; omega)), fun b t cs hw hne => h4 b t cs (hw.under bA) hne, fun _ v L ht => ?_, fun base' v l h5 h6 => own_newer (own_under h6 bA) h5 hB h3⟩
  obtain ⟨es, g1, g2, g3⟩ := ht.under bA
  exact ⟨es, own_kept_F (by decide) (h.under bA) g1 h3, g2, fun x hx => own_kept_F (by decide) (h.under bA) (g3 x hx) h3⟩
theorem once_tells (w : World) (base : Nat) (v : Value) (L : List Tl) (h : TellsAt base w v L) (x : TE) (ho : w.ownsRow base 51 7 x.val x.n (flatN x.l)) (hl : L.length ≤ 1000) (hbase : base ≤ w.heap.size) (b : Nat) (hb : w.heap.size = b) (B : Nat) (hB : ∀ g, v.ownBlock = some g → g < B) :
    ∃ A' c' w', (Builtin.append_ #[23, 23] 23 #[v, .slice (some ⟨b, 0, none⟩) 1 1]).run Try.prog (w.alloc (.cells #[.int .i64 x.call, .int .u8 x.kind, .int .u8 x.code, .int .i64 x.id, .slice x.A x.n x.c, .bool x.more] 30)) = .ok (.slice A' (L.length + 1) c') w' ∧ TellsAt base w' (.slice A' (L.length + 1) c') (L ++ [x.t]) ∧ Below base w w' ∧ (∀ b t cs, Whole w b t cs → 30 ≠ t → Whole w' b t cs) ∧ (∀ base' v l, AsksAt base' w v l → AsksAt base' w' v l) ∧ (∀ base' v L, B ≤ base' → TellsAt base' w v L → TellsAt base' w' v L) := by
  have bA := (Below.refl w.heap.size w).alloc (Nat.le_refl _) (.cells #[.int .i64 x.call, .int .u8 x.kind, .int .u8 x.code, .int .i64 x.id, .slice x.A x.n x.c, .bool x.more] 30)
  obtain ⟨es, g1, _, _⟩ := h.under bA
  obtain ⟨A', c', w', h1, h2, h3, h4⟩ := tells_app (w.alloc (.cells #[.int .i64 x.call, .int .u8 x.kind, .int .u8 x.code, .int .i64 x.id, .slice x.A x.n x.c, .bool x.more] 30)) base v L (h.under bA) _ _ 1 1 [x] (rdT_one w x b hb) (fun y hy => by simp only [List.mem_singleton] at hy; subst hy; exact own_under ho bA) (by omega) (by simp; omega)
  refine ⟨A', c', w', h1, h2, (bA.mono hbase).trans (below_row g1 h3 (by simp; omega)), fun b t cs hw hne => h4 b t cs (hw.under bA) hne, fun _ v l ha => own_kept_F (by decide) g1 (ha.under bA) h3, fun base' v' L' h5 h6 => ?_⟩
  obtain ⟨es', k1, k2, k3⟩ := h6.under bA
  exact ⟨es', own_newer k1 h5 hB h3, k2, fun y hy => own_kept_F (by decide) g1 (k3 y hy) h3⟩
theorem wrapI_small {n : Int} (h0 : -1000000 ≤ n) (h1 : n ≤ 1000000) : IntKind.i64.wrap n = n := by
  simp only [IntKind.wrap, IntKind.bits, IntKind.signed]
  simp
  split <;> omega
theorem cntF_le {α : Type} [DecidableEq α] (l : List α) (y : α) (j : Nat) : cntF l y j ≤ j := by
  unfold cntF
  have h1 := List.count_le_length (a := y) (l := l.take j)
  have h2 := List.length_take_le j l
  omega
theorem eq_op {P : Program} {m : Sem Value} {r : Next} {w : World} {v : Value} (h : m.run P w = .ok v w) (e : r = .value v) : (m >>= fun v => pure (Next.value v)).run P w = .ok r w := by
  subst e
  simp only [Sem.run_bind, h, Result.andThen_ok, Sem.run_pure]
theorem fewK {s : Nt} (h : s.few) (z : Int) : (askN s z).few :=
  ⟨by simp only [askN]; have := List.length_eraseIdx_le s.ks (placeN z s.ks.length); have := h.ks; omega, h.ts, h.sn⟩
theorem fewT {s : Nt} (h : s.few) (z : Int) : (tellN s z).few :=
  ⟨h.ks, by simp only [tellN]; have := List.length_eraseIdx_le s.ts (placeN z s.ts.length); have := h.ts; omega, fun t ht => h.sn t (List.mem_of_mem_eraseIdx ht)⟩
/-- Between two rounds: what is left, what was taken. -/
structure OnS (w : World) (A : Option Addr) (n c : Nat) (A' : Option Addr) (n' c' : Nat) (s : Nt) (g j : Nat) (o : Nt) (ks : List Ak) (ts : List Tl) (A6 : Option Addr) (c6 : Nat) (A7 : Option Addr) (c7 : Nat) (Ao : Option Addr) (co : Nat) (Bo : Option Addr) (eo : Nat) (V : World) : Prop where
  n0 : Whole V w.heap.size 25 #[.slice A n c, .slice A' n' c']
  pg : Whole V g 25 #[.slice Ao o.ks.length co, .slice Bo o.ts.length eo]
  gl : w.heap.size < g
  oo : NtO w.heap.size V Ao co Bo eo o
  ka : AsksAt w.heap.size V (.slice A6 ks.length c6) ks
  ta : TellsAt w.heap.size V (.slice A7 ts.length c7) ts
  on : Once s o ks ts j
  fo : o.few
  ft : ∀ t ∈ ts, t.seen.length ≤ 100
  be : Below w.heap.size w V
/-- Behind a call: what it answered has come, the rest stands. -/
structure OnC (w : World) (A : Option Addr) (n c : Nat) (A' : Option Addr) (n' c' : Nat) (g : Nat) (o : Nt) (ks : List Ak) (ts : List Tl) (A6 : Option Addr) (c6 : Nat) (A7 : Option Addr) (c7 : Nat) (Ao : Option Addr) (co : Nat) (Bo : Option Addr) (eo : Nat) (V : World) : Prop where
  n0 : Whole V w.heap.size 25 #[.slice A n c, .slice A' n' c']
  pg : Whole V g 25 #[.slice Ao o.ks.length co, .slice Bo o.ts.length eo]
  ka : AsksAt w.heap.size V (.slice A6 ks.length c6) ks
  ta : TellsAt w.heap.size V (.slice A7 ts.length c7) ts
  be : Below w.heap.size w V
section
variable {w V V' : World} {A A' A6 A7 Ao Bo : Option Addr} {n c n' c' g j c6 c7 co eo : Nat} {s o : Nt} {ks : List Ak} {ts : List Tl}
theorem OnS.bare (h : OnS w A n c A' n' c' s g j o ks ts A6 c6 A7 c7 Ao co Bo eo V) : OnC w A n c A' n' c' g o ks ts A6 c6 A7 c7 Ao co Bo eo V := ⟨h.n0, h.pg, h.ka, h.ta, h.be⟩
theorem OnC.under (h : OnC w A n c A' n' c' g o ks ts A6 c6 A7 c7 Ao co Bo eo V) (hb : Below V.heap.size V V') : OnC w A n c A' n' c' g o ks ts A6 c6 A7 c7 Ao co Bo eo V' := ⟨h.n0.under hb, h.pg.under hb, h.ka.under hb, h.ta.under hb, h.be.trans (hb.mono h.be.size)⟩
end

end Go.Proofs.Ytcbbjloojngoiaa
