/-
  What the walks of the statements over ways lean on: ways that may be, what is sent twice, what is taken last. Conditions: those that each theorem names.
-/
import Derived.Test.YtcbbjloojngoiaaNtWakes
import Derived.Test.YtcbbjloojngoiaaNtGreat
import Derived.Test.YtcbbjloojngoiaaNtRefSame
namespace Go.Proofs.Ytcbbjloojngoiaa
open Go.RowKit Go.Shelf

/-- A way as it comes in: what it reads as, however long. -/
structure NtIn (w : World) (A : Option Addr) (n : Nat) (A' : Option Addr) (n' : Nat) (s : Nt) : Prop where
  ks : RdK w w.heap.size A n s.ks
  ts : ∃ es : List TE, es.map TE.t = s.ts ∧ RdT w w.heap.size A' n' es
theorem NtIn.up {w w' : World} {A A' : Option Addr} {n n' : Nat} {s : Nt} (h : NtIn w A n A' n' s) (hb : Below w.heap.size w w') : NtIn w' A n A' n' s := by
  obtain ⟨es, h1, h2⟩ := h.ts
  exact ⟨(h.ks.below hb).more hb.size, ⟨es, h1, h2.up hb⟩⟩
theorem NtIn.rd {w : World} {A A' : Option Addr} {n n' : Nat} {s : Nt} (h : NtIn w A n A' n' s) (hg : greatN s = false) : NtR w A n A' n' s := by
  obtain ⟨h1, h2, h3⟩ := greatN_no hg
  exact ⟨h.ks, h.ts, ⟨by omega, by omega, fun t ht => by have := h3 t ht; omega⟩⟩
theorem NtIn.great {w : World} {A A' : Option Addr} {n n' : Nat} {s : Nt} (h : NtIn w A n A' n' s) (c c' : Nat) : Calls Try.prog 8 #[.agg #[.slice A n c, .slice A' n' c']] w (BoolPost (greatN s) w) := by
  obtain ⟨es, h1, h2⟩ := h.ts
  exact great_any A n c A' n' c' s es w h.ks.1 h1 h2
theorem NtIn.lk {w : World} {A A' : Option Addr} {n n' : Nat} {s : Nt} (h : NtIn w A n A' n' s) : s.ks.length = n := h.ks.1
theorem NtIn.lt {w : World} {A A' : Option Addr} {n n' : Nat} {s : Nt} (h : NtIn w A n A' n' s) : s.ts.length = n' := by
  obtain ⟨es, h1, h2⟩ := h.ts
  rw [← h1, List.length_map]
  exact h2.len

theorem twice_ask {s : Nt} {z : Int} {a : Ak} (ha : askA s z = some a) (hlt : s.ks.length < 60) : twiceN s z false = ⟨s.ks ++ [a], s.ts⟩ ∧ twiceE s false = 0 := by
  simp only [twiceN, ha, twiceE, sendN_more hlt, fullE_no hlt, Bool.false_eq_true, if_false, and_self]
theorem twice_tell {s : Nt} {z : Int} {t : Tl} (ht : tellT s z = some t) (hlt : s.ts.length < 60) : twiceN s z true = ⟨s.ks, s.ts ++ [t]⟩ ∧ twiceE s true = 0 := by
  simp only [twiceN, ht, twiceE, postN_more hlt, fullE_no hlt, if_true, and_self]
theorem few_ask {s : Nt} (h : s.few) (hlt : s.ks.length < 100) (a : Ak) : (⟨s.ks ++ [a], s.ts⟩ : Nt).few := ⟨by simp; omega, h.ts, h.sn⟩
theorem few_tell {s : Nt} (h : s.few) (hlt : s.ts.length < 100) {t : Tl} (ht : t.seen.length ≤ 100) : (⟨s.ks, s.ts ++ [t]⟩ : Nt).few := ⟨h.ks, by simp; omega, fun u hu => by
  simp only [List.mem_append, List.mem_singleton] at hu
  rcases hu with hu | rfl
  · exact h.sn u hu
  · exact ht⟩

end Go.Proofs.Ytcbbjloojngoiaa
