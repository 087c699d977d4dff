/-
  What is on its way, as a value: two slices that read; in memory of its own. Conditions: those that each theorem names.
-/
import Derived.Test.YtcbbjloojngoiaaNtOwnT
namespace Go.Proofs.Ytcbbjloojngoiaa
open Go.RowKit Go.Shelf

/-- Few asks and tells, each of few boxes. -/
structure Nt.few (s : Nt) : Prop where
  ks : s.ks.length ≤ 100
  ts : s.ts.length ≤ 100
  sn : ∀ t ∈ s.ts, t.seen.length ≤ 100
/-- Two slices that read as what is on its way. -/
structure NtR (w : World) (A : Option Addr) (n : Nat) (A' : Option Addr) (n' : Nat) (s : Nt) : Prop where
  ks : RdK w w.heap.size A n s.ks
  ts : ∃ es : List TE, es.map TE.t = s.ts ∧ RdT w w.heap.size A' n' es
  few : s.few
theorem NtR.up {w w' : World} {A A' : Option Addr} {n n' : Nat} {s : Nt} (h : NtR w A n A' n' s) (hb : Below w.heap.size w w') : NtR w' A n A' n' s := by
  obtain ⟨es, h1, h2⟩ := h.ts
  exact ⟨(h.ks.below hb).more hb.size, ⟨es, h1, h2.up hb⟩, h.few⟩
theorem NtR.lk {w : World} {A A' : Option Addr} {n n' : Nat} {s : Nt} (h : NtR w A n A' n' s) : s.ks.length = n := h.ks.1
theorem NtR.lt {w : World} {A A' : Option Addr} {n n' : Nat} {s : Nt} (h : NtR w A n A' n' s) : s.ts.length = n' := by
  obtain ⟨es, h1, h2⟩ := h.ts
  rw [← h1, List.length_map]
  exact h2.len
/-- In memory of one's own, from base on. -/
structure NtO (base : Nat) (w : World) (A : Option Addr) (c : Nat) (A' : Option Addr) (c' : Nat) (s : Nt) : Prop where
  ks : AsksAt base w (.slice A s.ks.length c) s.ks
  ts : TellsAt base w (.slice A' s.ts.length c') s.ts
theorem NtO.rd {base : Nat} {w : World} {A A' : Option Addr} {c c' : Nat} {s : Nt} (h : NtO base w A c A' c' s) (hf : s.few) : NtR w A s.ks.length A' s.ts.length s := by
  obtain ⟨es, h1, h2, _⟩ := h.ts.read
  exact ⟨h.ks.read, ⟨es, h1, h2⟩, hf⟩
theorem NtO.under {base : Nat} {w w' : World} {A A' : Option Addr} {c c' : Nat} {s : Nt} (h : NtO base w A c A' c' s) (hb : Below w.heap.size w w') : NtO base w' A c A' c' s := ⟨h.ks.under hb, h.ts.under hb⟩
theorem NtO.weaker {base base' : Nat} {w : World} {A A' : Option Addr} {c c' : Nat} {s : Nt} (h : NtO base' w A c A' c' s) (hb : base ≤ base') : NtO base w A c A' c' s := ⟨h.ks.weaker hb, h.ts.weaker hb⟩
theorem AsksAt.only {base g : Nat} {w w' : World} {v : Value} {l : List Ak} {t : TypeId} {cs : Array Value} (h : AsksAt base w v l) (k : Only g w w') (hw : Whole w g t cs) (h1 : 27 ≠ t) : AsksAt base w' v l := k.own h hw h1
theorem TellsAt.only {base g : Nat} {w w' : World} {v : Value} {l : List Tl} {t : TypeId} {cs : Array Value} (h : TellsAt base w v l) (k : Only g w w') (hw : Whole w g t cs) (h1 : 30 ≠ t) (h2 : 51 ≠ t) : TellsAt base w' v l := by
  obtain ⟨es, g1, g2, g3⟩ := h
  exact ⟨es, k.own g1 hw h1, g2, fun x hx => k.own (g3 x hx) hw h2⟩
theorem NtO.only {base g : Nat} {w w' : World} {A A' : Option Addr} {c c' : Nat} {s : Nt} {t : TypeId} {cs : Array Value} (h : NtO base w A c A' c' s) (k : Only g w w') (hw : Whole w g t cs) (h1 : 27 ≠ t) (h2 : 30 ≠ t) (h3 : 51 ≠ t) : NtO base w' A c A' c' s := ⟨h.ks.only k hw h1, h.ts.only k hw h2 h3⟩
/-- What comes of a call: that, in memory of its own. -/
def NetPost (s : Nt) (w : World) (e : Ending) (w' : World) : Prop :=
  ∃ A c A' c', e = .returned (.agg #[.slice A s.ks.length c, .slice A' s.ts.length c']) ∧ NtO w.heap.size w' A c A' c' s ∧ Below w.heap.size w w'

/-- An ask behind a row of one's own. -/
theorem asks_put (w : World) (base : Nat) (v : Value) (l : List Ak) (h : AsksAt base w v l) (q : Ak) (hl : l.length ≤ 1000) (hbase : base ≤ w.heap.size) (b : Nat) (hb : w.heap.size = b) :
    ∃ A' c' w', (Builtin.append_ #[22, 22] 22 #[v, .slice (some ⟨b, 0, none⟩) 1 1]).run Try.prog (w.alloc (.cells #[.int .u8 q.kind, .int .i64 q.call, .int .i64 q.a, .int .i64 q.b, .int .i64 q.c, .int .i64 q.d] 27)) = .ok (.slice A' (l.length + 1) c') w' ∧ AsksAt base w' (.slice A' (l.length + 1) c') (l ++ [q]) ∧ Below base w w' ∧ KeepsOthers w w' ∧ (∀ b t cs, Whole w b t cs → 27 ≠ t → Whole w' b t cs) ∧ (∀ base' v L, TellsAt base' w v L → TellsAt base' w' v L) := by
  have bA := (Below.refl w.heap.size w).alloc (Nat.le_refl _) (.cells #[.int .u8 q.kind, .int .i64 q.call, .int .i64 q.a, .int .i64 q.b, .int .i64 q.c, .int .i64 q.d] 27)
  obtain ⟨A', c', w', h1, h2, h3, h4⟩ := asks_app (w.alloc (.cells #[.int .u8 q.kind, .int .i64 q.call, .int .i64 q.a, .int .i64 q.b, .int .i64 q.c, .int .i64 q.d] 27)) base v l (h.under bA) _ _ 1 1 [q] (rdK_one w q b hb) (by omega) (by simp; omega)
  refine ⟨A', c', w', h1, h2, (bA.mono hbase).trans (below_row (h.under bA) h3 (by simp; omega)), (keeps_under bA).trans (keeps_row (h.under bA) h3), fun b t cs hw hne => h4 b t cs (hw.under bA) hne, fun _ v L ht => ?_⟩
  obtain ⟨es, g1, g2, g3⟩ := ht.under bA
  exact ⟨es, own_kept_F (by decide) (h.under bA) g1 h3, g2, fun x hx => own_kept_F (by decide) (h.under bA) (g3 x hx) h3⟩
/-- A tell, its row one's own, behind a row of one's own. -/
theorem tells_put (w : World) (base : Nat) (v : Value) (L : List Tl) (h : TellsAt base w v L) (x : TE) (ho : w.ownsRow base 51 7 x.val x.n (flatN x.l)) (hl : L.length ≤ 1000) (hbase : base ≤ w.heap.size) (b : Nat) (hb : w.heap.size = b) :
    ∃ A' c' w', (Builtin.append_ #[23, 23] 23 #[v, .slice (some ⟨b, 0, none⟩) 1 1]).run Try.prog (w.alloc (.cells #[.int .i64 x.call, .int .u8 x.kind, .int .u8 x.code, .int .i64 x.id, .slice x.A x.n x.c, .bool x.more] 30)) = .ok (.slice A' (L.length + 1) c') w' ∧ TellsAt base w' (.slice A' (L.length + 1) c') (L ++ [x.t]) ∧ Below base w w' ∧ KeepsOthers w w' ∧ (∀ b t cs, Whole w b t cs → (30 ≠ t ∨ v.ownBlock ≠ some b) → Whole w' b t cs) ∧ (∀ base' v l, AsksAt base' w v l → AsksAt base' w' v l) := by
  have bA := (Below.refl w.heap.size w).alloc (Nat.le_refl _) (.cells #[.int .i64 x.call, .int .u8 x.kind, .int .u8 x.code, .int .i64 x.id, .slice x.A x.n x.c, .bool x.more] 30)
  obtain ⟨es, g1, _, _⟩ := h.under bA
  obtain ⟨A', c', w', h1, h2, h3, h4⟩ := tells_app (w.alloc (.cells #[.int .i64 x.call, .int .u8 x.kind, .int .u8 x.code, .int .i64 x.id, .slice x.A x.n x.c, .bool x.more] 30)) base v L (h.under bA) _ _ 1 1 [x] (rdT_one w x b hb) (fun y hy => by simp only [List.mem_singleton] at hy; subst hy; exact own_under ho bA) (by omega) (by simp; omega)
  exact ⟨A', c', w', h1, h2, (bA.mono hbase).trans (below_row g1 h3 (by simp; omega)), (keeps_under bA).trans (keeps_row g1 h3), fun b t cs hw hne => hne.elim (fun h => h4 b t cs (hw.under bA) h) (fun h => (hw.under bA).grown h3 (Ne.symm h)), fun _ v l ha => own_kept_F (by decide) g1 (ha.under bA) h3⟩

/-- A tell behind a row of tells of one's own, whatever they saw. -/
theorem rowT_put (w : World) (base : Nat) (v : Value) (es : List TE) (h : w.ownsRow base 30 6 v es.length (es.flatMap TE.vs)) (x : TE) (hl : es.length ≤ 1000) (hbase : base ≤ w.heap.size) (b : Nat) (hb : w.heap.size = b) :
    ∃ A' c' w', (Builtin.append_ #[23, 23] 23 #[v, .slice (some ⟨b, 0, none⟩) 1 1]).run Try.prog (w.alloc (.cells #[.int .i64 x.call, .int .u8 x.kind, .int .u8 x.code, .int .i64 x.id, .slice x.A x.n x.c, .bool x.more] 30)) = .ok (.slice A' (es.length + 1) c') w' ∧ w'.ownsRow base 30 6 (.slice A' (es.length + 1) c') (es.length + 1) ((es ++ [x]).flatMap TE.vs) ∧ Below base w w' ∧ KeepsOthers w w' ∧ (∀ b t cs, Whole w b t cs → 30 ≠ t → Whole w' b t cs) ∧ True := by
  have bA := (Below.refl w.heap.size w).alloc (Nat.le_refl _) (.cells #[.int .i64 x.call, .int .u8 x.kind, .int .u8 x.code, .int .i64 x.id, .slice x.A x.n x.c, .bool x.more] 30)
  obtain ⟨v', w', h1, h2, h3⟩ := run_appF Try.underlying23 info_tl rfl (by decide) TE.vs_len TE.vs_one _ base v es.length _ (own_under h bA) _ _ 1 1 [x] (rdT_one w x b hb) (by unfold maxLen; omega) (by omega) (by simp; omega)
  obtain ⟨A', c', rfl⟩ := own_formF h2
  exact ⟨A', c', w', h1, by rw [List.flatMap_append]; exact h2, (bA.mono hbase).trans (below_row (own_under h bA) h3 (by simp; omega)), (keeps_under bA).trans (keeps_row (own_under h bA) h3), fun b t cs hw hne => (hw.under bA).grown h3 (Ne.symm (own_apart_F hne (own_under h bA) (hw.under bA))), trivial⟩

end Go.Proofs.Ytcbbjloojngoiaa
