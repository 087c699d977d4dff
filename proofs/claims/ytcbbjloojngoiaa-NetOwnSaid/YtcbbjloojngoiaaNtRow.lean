/-
  What is on its way, in memory: rows of asks and of tells, how they read, rows of one's own, appends. Conditions: those that each theorem names.
-/
import Derived.Test.YtcbbjloojngoiaaRdF
import Derived.Test.YtcbbjloojngoiaaNtMath
import Derived.Test.YtcbbjloojngoiaaPgRow
namespace Go.Proofs.Ytcbbjloojngoiaa
open Go.RowKit Go.Shelf

set_option maxRecDepth 100000 in
theorem Ak.vs_len (x : Ak) : x.vs.length = 6 := rfl
set_option maxRecDepth 100000 in
theorem Ak.vs_one (x : Ak) : ∀ u ∈ x.vs, u.oneCell' = true := by
  intro u hu
  simp only [Ak.vs, List.mem_cons, List.not_mem_nil, or_false] at hu
  rcases hu with rfl | rfl | rfl | rfl | rfl | rfl <;> rfl
set_option maxRecDepth 100000 in
theorem RdK.toF {w : World} {B n : Nat} {A : Option Addr} {l : List Ak} (h : RdK w B A n l) : RdF 6 Ak.vs w B A n l :=
  ⟨h.1, fun hn => by
    obtain ⟨b, off, e, hlt, hc⟩ := h.2 hn
    exact ⟨b, off, e, hlt, fun j x hx i hi => (hc j x hx).all i hi⟩⟩
set_option maxRecDepth 100000 in
theorem RdF.toK {w : World} {B n : Nat} {A : Option Addr} {l : List Ak} (h : RdF 6 Ak.vs w B A n l) : RdK w B A n l :=
  ⟨h.1, fun hn => by
    obtain ⟨b, off, e, hlt, hc⟩ := h.2 hn
    exact ⟨b, off, e, hlt, fun j x hx => akAt_of fun i hi => hc j x hx i hi⟩⟩
set_option maxRecDepth 100000 in
theorem info_ak : (Try.prog.info? 27).map (fun i => (i.zero, i.size, i.bytes)) = some (some (.agg (Ak.vs ⟨0, 0, 0, 0, 0, 0⟩).toArray), 6, 48) := by kernel_rfl

/-- A tell, as an element of a slice: its values, its slice of what was seen, and what that reads as. -/
structure TE where
  call : Int
  kind : Int
  code : Int
  id : Int
  A : Option Addr
  n : Nat
  c : Nat
  more : Bool
  l : List Sn
def TE.vs (x : TE) : List Value := [.int .i64 x.call, .int .u8 x.kind, .int .u8 x.code, .int .i64 x.id, .slice x.A x.n x.c, .bool x.more]
def TE.val (x : TE) : Value := .slice x.A x.n x.c
/-- What it says. -/
def TE.t (x : TE) : Tl := ⟨x.call, x.kind, x.code, x.id, x.l, x.more⟩
set_option maxRecDepth 100000 in
theorem TE.vs_len (x : TE) : x.vs.length = 6 := rfl
set_option maxRecDepth 100000 in
theorem TE.vs_one (x : TE) : ∀ u ∈ x.vs, u.oneCell' = true := by
  intro u hu
  simp only [TE.vs, List.mem_cons, List.not_mem_nil, or_false] at hu
  rcases hu with rfl | rfl | rfl | rfl | rfl | rfl <;> rfl
/-- A tell, from o on in a block. -/
structure TlAt (w : World) (b o : Nat) (x : TE) : Prop where
  c0 : w.cell? ⟨b, o, none⟩ = some (.int .i64 x.call)
  c1 : w.cell? ⟨b, o + 1, none⟩ = some (.int .u8 x.kind)
  c2 : w.cell? ⟨b, o + 2, none⟩ = some (.int .u8 x.code)
  c3 : w.cell? ⟨b, o + 3, none⟩ = some (.int .i64 x.id)
  c4 : w.cell? ⟨b, o + 4, none⟩ = some (.slice x.A x.n x.c)
  c5 : w.cell? ⟨b, o + 5, none⟩ = some (.bool x.more)
set_option maxRecDepth 100000 in
theorem tlAt_of {w : World} {b o : Nat} {x : TE} (h : ∀ i, i < 6 → w.cell? ⟨b, o + i, none⟩ = x.vs[i]?) : TlAt w b o x :=
  ⟨h 0 (by omega), h 1 (by omega), h 2 (by omega), h 3 (by omega), h 4 (by omega), h 5 (by omega)⟩
set_option maxRecDepth 100000 in
theorem TlAt.all {w : World} {b o : Nat} {x : TE} (h : TlAt w b o x) : ∀ i, i < 6 → w.cell? ⟨b, o + i, none⟩ = x.vs[i]? := by
  intro i hi
  rcases (by omega : i = 0 ∨ i = 1 ∨ i = 2 ∨ i = 3 ∨ i = 4 ∨ i = 5) with rfl | rfl | rfl | rfl | rfl | rfl
  all_goals first | exact h.c0 | exact h.c1 | exact h.c2 | exact h.c3 | exact h.c4 | exact h.c5
set_option maxRecDepth 100000 in
theorem info_tl : (Try.prog.info? 30).map (fun i => (i.zero, i.size, i.bytes)) = some (some (.agg (TE.vs ⟨0, 0, 0, 0, none, 0, 0, false, []⟩).toArray), 6, 56) := by kernel_rfl

/-- A slice of tells that reads as the list l, in blocks below B; what each saw reads too. -/
def RdT (w : World) (B : Nat) (A : Option Addr) (n : Nat) (l : List TE) : Prop :=
  RdF 6 TE.vs w B A n l ∧ ∀ x ∈ l, RdSn w B x.A x.n x.l
section
variable {w w' : World} {B B' n : Nat} {A : Option Addr} {l : List TE}
set_option maxRecDepth 100000 in
theorem RdT.len (h : RdT w B A n l) : l.length = n := h.1.1
set_option maxRecDepth 100000 in
theorem RdT.nil_ (w : World) (B : Nat) (A : Option Addr) : RdT w B A 0 [] := ⟨RdF.nil_ _ _ _, by simp⟩
set_option maxRecDepth 100000 in
theorem RdT.below (h : RdT w B A n l) (hb : Below B w w') : RdT w' B A n l := ⟨h.1.below hb, fun x hx => (h.2 x hx).below hb⟩
set_option maxRecDepth 100000 in
theorem RdT.more (h : RdT w B A n l) (hB : B ≤ B') : RdT w B' A n l := ⟨h.1.more hB, fun x hx => (h.2 x hx).more hB⟩
set_option maxRecDepth 100000 in
theorem RdT.up {W W' : World} (h : RdT W W.heap.size A n l) (hb : Below W.heap.size W W') : RdT W' W'.heap.size A n l := (h.below hb).more hb.size
set_option maxRecDepth 100000 in
theorem RdT.at (h : RdT w B A n l) {j : Nat} {x : TE} (hx : l[j]? = some x) : ∃ b off, A = some ⟨b, off, none⟩ ∧ b < B ∧ TlAt w b (off + j * 6) x := by
  have hj : j < l.length := (List.getElem?_eq_some_iff.1 hx).1
  obtain ⟨b, off, e, hlt, hc⟩ := h.1.2 (by have := h.1.1; omega)
  exact ⟨b, off, e, hlt, tlAt_of fun i hi => hc j x hx i hi⟩
set_option maxRecDepth 100000 in
theorem RdT.seen (h : RdT w B A n l) {j : Nat} {x : TE} (hx : l[j]? = some x) : RdSn w B x.A x.n x.l := h.2 x (List.mem_of_getElem? hx)
set_option maxRecDepth 100000 in
theorem RdT.take (h : RdT w B A n l) {k : Nat} (hk : k ≤ n) : RdT w B A k (l.take k) := ⟨h.1.take hk, fun x hx => h.2 x (List.mem_of_mem_take hx)⟩
set_option maxRecDepth 100000 in
theorem RdT.drop (h : RdT w B A n l) {k : Nat} (hk : k ≤ n) {A' : Option Addr} (hA : k < n → ∀ b off, A = some ⟨b, off, none⟩ → A' = some ⟨b, off + k * 6, none⟩) : RdT w B A' (n - k) (l.drop k) := ⟨h.1.drop hk hA, fun x hx => h.2 x (List.mem_of_mem_drop hx)⟩
end

/-- Slice v of the call's own holds the asks l. -/
def AsksAt (base : Nat) (w : World) (v : Value) (l : List Ak) : Prop := w.ownsRow base 27 6 v l.length (l.flatMap Ak.vs)
/-- Slice v of the call's own holds tells, each with a row of the call's own of what it saw, that say L. -/
def TellsAt (base : Nat) (w : World) (v : Value) (L : List Tl) : Prop :=
  ∃ es : List TE, w.ownsRow base 30 6 v L.length (es.flatMap TE.vs) ∧ es.map TE.t = L ∧ ∀ x ∈ es, w.ownsRow base 51 7 x.val x.n (flatN x.l)

section
variable {base base' : Nat} {w w' : World} {v : Value} {l : List Ak} {L : List Tl}
set_option maxRecDepth 100000 in
theorem AsksAt.nil_ (base : Nat) (w : World) : AsksAt base w (.slice none 0 0) [] := World.ownsRow_nil _ _ _ _
set_option maxRecDepth 100000 in
theorem AsksAt.form (h : AsksAt base w v l) : ∃ A c, v = .slice A l.length c := own_formF h
set_option maxRecDepth 100000 in
theorem AsksAt.under (h : AsksAt base w v l) (hb : Below w.heap.size w w') : AsksAt base w' v l := own_under h hb
set_option maxRecDepth 100000 in
theorem AsksAt.weaker (h : AsksAt base' w v l) (hb : base ≤ base') : AsksAt base w v l := own_weaker h hb
set_option maxRecDepth 100000 in
theorem AsksAt.turn {row : Option Nat} (h : AsksAt base w v l) (hg : w.grownBy w' row) (hr : ∀ r, row = some r → ∃ o : Obj, w.heap[r]? = some o ∧ o.isCells = false) : AsksAt base w' v l := own_turn h hg hr
set_option maxRecDepth 100000 in
theorem AsksAt.far (h : AsksAt base w v l) {b : Nat} {t : TypeId} {cs : Array Value} (hw : Whole w b t cs) (h1 : 27 ≠ t) (i : Nat) (u : Value) : AsksAt base (w.setCell ⟨b, i, none⟩ u) v l :=
  ownsRow_setCell_other (a := ⟨b, i, none⟩) h (own_apart_F h1 h hw) u
set_option maxRecDepth 100000 in
theorem AsksAt.read {A : Option Addr} {c : Nat} (h : AsksAt base w (.slice A l.length c) l) : RdK w w.heap.size A l.length l := (RdF.of_own Ak.vs_len (by omega) h).toK

set_option maxRecDepth 100000 in
theorem TellsAt.nil_ (base : Nat) (w : World) : TellsAt base w (.slice none 0 0) [] := ⟨[], World.ownsRow_nil _ _ _ _, rfl, by simp⟩
set_option maxRecDepth 100000 in
theorem TellsAt.form (h : TellsAt base w v L) : ∃ A c, v = .slice A L.length c := by
  obtain ⟨es, h1, _⟩ := h
  exact own_formF h1
set_option maxRecDepth 100000 in
theorem TellsAt.under (h : TellsAt base w v L) (hb : Below w.heap.size w w') : TellsAt base w' v L := by
  obtain ⟨es, h1, h2, h3⟩ := h
  exact ⟨es, own_under h1 hb, h2, fun x hx => own_under (h3 x hx) hb⟩
set_option maxRecDepth 100000 in
theorem TellsAt.weaker (h : TellsAt base' w v L) (hb : base ≤ base') : TellsAt base w v L := by
  obtain ⟨es, h1, h2, h3⟩ := h
  exact ⟨es, own_weaker h1 hb, h2, fun x hx => own_weaker (h3 x hx) hb⟩
set_option maxRecDepth 100000 in
theorem TellsAt.turn {row : Option Nat} (h : TellsAt base w v L) (hg : w.grownBy w' row) (hr : ∀ r, row = some r → ∃ o : Obj, w.heap[r]? = some o ∧ o.isCells = false) : TellsAt base w' v L := by
  obtain ⟨es, h1, h2, h3⟩ := h
  exact ⟨es, own_turn h1 hg hr, h2, fun x hx => own_turn (h3 x hx) hg hr⟩
set_option maxRecDepth 100000 in
/-- A store into a block of another type. -/
theorem TellsAt.far (h : TellsAt base w v L) {b : Nat} {t : TypeId} {cs : Array Value} (hw : Whole w b t cs) (h1 : 30 ≠ t) (h2 : 51 ≠ t) (i : Nat) (u : Value) : TellsAt base (w.setCell ⟨b, i, none⟩ u) v L := by
  obtain ⟨es, g1, g2, g3⟩ := h
  exact ⟨es, ownsRow_setCell_other (a := ⟨b, i, none⟩) g1 (own_apart_F h1 g1 hw) u, g2, fun x hx => ownsRow_setCell_other (a := ⟨b, i, none⟩) (g3 x hx) (own_apart_F h2 (g3 x hx) hw) u⟩
set_option maxRecDepth 100000 in
/-- As a slice of tells that is read. -/
theorem TellsAt.read {A : Option Addr} {c : Nat} (h : TellsAt base w (.slice A L.length c) L) : ∃ es : List TE, es.map TE.t = L ∧ RdT w w.heap.size A L.length es ∧ ∀ x ∈ es, w.ownsRow base 51 7 x.val x.n (flatN x.l) := by
  obtain ⟨es, h1, h2, h3⟩ := h
  exact ⟨es, h2, ⟨RdF.of_own TE.vs_len (by omega) h1, fun x hx => RdSn.of_own (h3 x hx)⟩, h3⟩
end

set_option maxRecDepth 100000 in
/-- 'append(v, x...)' of asks. -/
theorem asks_app (w : World) (base : Nat) (v : Value) (l : List Ak) (h : AsksAt base w v l) (B : Nat) (A : Option Addr) (m c : Nat) (l' : List Ak) (hr : RdK w B A m l') (hm : l.length + m ≤ 1000000) (hbase : base ≤ w.heap.size) :
    ∃ A' c' w', (Builtin.append_ #[22, 22] 22 #[v, .slice A m c]).run Try.prog w = .ok (.slice A' (l.length + m) c') w' ∧ AsksAt base w' (.slice A' (l.length + m) c') (l ++ l') ∧ w.grownBy w' v.ownBlock ∧ (∀ b t cs, Whole w b t cs → 27 ≠ t → Whole w' b t cs) := by
  obtain ⟨v', w', g1, g2, g3⟩ := run_appF Try.underlying22 info_ak rfl (by decide) Ak.vs_len Ak.vs_one w base v l.length _ h B A m c l' hr.toF (by unfold maxLen; omega) (by omega) hbase
  obtain ⟨A', c', rfl⟩ := own_formF g2
  refine ⟨A', c', w', g1, ?_, g3, fun b t cs hw hne => hw.grown g3 (Ne.symm (own_apart_F hne h hw))⟩
  unfold AsksAt
  rw [List.length_append, hr.len, List.flatMap_append]
  exact g2
set_option maxRecDepth 100000 in
/-- 'append(v, x...)' of tells, each with a row of the call's own of what it saw. -/
theorem tells_app (w : World) (base : Nat) (v : Value) (L : List Tl) (h : TellsAt base w v L) (B : Nat) (A : Option Addr) (m c : Nat) (es' : List TE) (hr : RdF 6 TE.vs w B A m es') (ho : ∀ x ∈ es', w.ownsRow base 51 7 x.val x.n (flatN x.l)) (hm : L.length + m ≤ 1000000) (hbase : base ≤ w.heap.size) :
    ∃ A' c' w', (Builtin.append_ #[23, 23] 23 #[v, .slice A m c]).run Try.prog w = .ok (.slice A' (L.length + m) c') w' ∧ TellsAt base w' (.slice A' (L.length + m) c') (L ++ es'.map TE.t) ∧ w.grownBy w' v.ownBlock ∧ (∀ b t cs, Whole w b t cs → 30 ≠ t → Whole w' b t cs) := by
  obtain ⟨es, h1, h2, h3⟩ := h
  obtain ⟨v', w', g1, g2, g3⟩ := run_appF Try.underlying23 info_tl rfl (by decide) TE.vs_len TE.vs_one w base v L.length _ h1 B A m c es' hr (by unfold maxLen; omega) (by omega) hbase
  obtain ⟨A', c', rfl⟩ := own_formF g2
  refine ⟨A', c', w', g1, ⟨es ++ es', ?_, by simp [h2], fun x hx => ?_⟩, g3, fun b t cs hw hne => hw.grown g3 (Ne.symm (own_apart_F hne h1 hw))⟩
  · rw [List.length_append, List.length_map, hr.len, List.flatMap_append]
    exact g2
  · simp only [List.mem_append] at hx
    rcases hx with hx | hx
    · exact own_kept_F (by decide) h1 (h3 x hx) g3
    · exact own_kept_F (by decide) h1 (ho x hx) g3

set_option maxRecDepth 100000 in
/-- A literal of one ask, of one tell. -/
theorem rdK_one (W : World) (x : Ak) (b : Nat) (hb : W.heap.size = b) : RdK (W.alloc (.cells #[.int .u8 x.kind, .int .i64 x.call, .int .i64 x.a, .int .i64 x.b, .int .i64 x.c, .int .i64 x.d] 27)) (b + 1) (some ⟨b, 0, none⟩) 1 [x] := by
  subst hb
  refine ⟨rfl, fun _ => ⟨W.heap.size, 0, rfl, by omega, ?_⟩⟩
  rintro (_ | j) y hy
  · simp only [List.getElem?_cons_zero, Option.some.injEq] at hy
    subst hy
    exact ⟨cell_new W _ _ 0, cell_new W _ _ 1, cell_new W _ _ 2, cell_new W _ _ 3, cell_new W _ _ 4, cell_new W _ _ 5⟩
  · simp at hy
set_option maxRecDepth 100000 in
theorem rdT_one (W : World) (x : TE) (b : Nat) (hb : W.heap.size = b) : RdF 6 TE.vs (W.alloc (.cells #[.int .i64 x.call, .int .u8 x.kind, .int .u8 x.code, .int .i64 x.id, .slice x.A x.n x.c, .bool x.more] 30)) (b + 1) (some ⟨b, 0, none⟩) 1 [x] := by
  subst hb
  refine ⟨rfl, fun _ => ⟨W.heap.size, 0, rfl, by omega, ?_⟩⟩
  rintro (_ | j) y hy i hi
  · simp only [List.getElem?_cons_zero, Option.some.injEq] at hy
    subst hy
    have h : TlAt (W.alloc (.cells #[.int .i64 x.call, .int .u8 x.kind, .int .u8 x.code, .int .i64 x.id, .slice x.A x.n x.c, .bool x.more] 30)) W.heap.size 0 x := ⟨cell_new W _ _ 0, cell_new W _ _ 1, cell_new W _ _ 2, cell_new W _ _ 3, cell_new W _ _ 4, cell_new W _ _ 5⟩
    rw [Nat.zero_mul, Nat.zero_add]
    exact (by simpa using h.all i hi)
  · simp at hy

end Go.Proofs.Ytcbbjloojngoiaa
