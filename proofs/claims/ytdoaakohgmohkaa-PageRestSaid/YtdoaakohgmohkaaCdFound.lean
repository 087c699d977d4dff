/-
  The walk of what 'toFound' hands back (package cloud). Conditions: those that each theorem names.
-/
import Derived.Test.YtdoaakohgmohkaaCdTaking
namespace Go.Proofs.Ytdoaakohgmohkaa
open Go.RowKit Go.Shelf

/-- What is done to the box that is found, and told. -/
def foundP (x : Cw) (q : Ak) (tc : Bx → Int) (ty : Bx → Bx) : List Bx × Int :=
  match find x.l q.a with
  | none => (x.l, missK x q)
  | some j => match x.l[j]? with
    | none => (x.l, 0)
    | some y => if q.call < y.fen then (x.l, 5) else if tc y = 1 then (x.l.set j { ty y with fen := q.call }, 1) else (x.l.set j (ty y), tc y)

def FoundPost (base Cb : Nat) (A : Option Addr) (n c : Nat) (x : Cw) (l : List Bx) (code id : Int) (W : World) (e : Ending) (W' : World) : Prop :=
  e = .returned (.tuple #[.int .u8 code, .int .i64 id]) ∧ Clu W' base Cb A n c { x with l := l } ∧ Below base W W'

/-- What is asked, in its box. -/
def AskIn (W : World) (E : Nat) (q : Ak) : Prop := Whole W E 46 #[.int .u8 q.kind, .int .i64 q.call, .int .i64 q.a, .int .i64 q.b, .int .i64 q.c, .int .i64 q.d]
set_option maxRecDepth 100000 in
theorem AskIn.under {W W' : World} {E : Nat} {q : Ak} (h : AskIn W E q) (hb : Below W.heap.size W W') : AskIn W' E q := Whole.under h hb
set_option maxRecDepth 100000 in
theorem AskIn.cells {W : World} {E : Nat} {q : Ak} (h : AskIn W E q) : W.cell? ⟨E, 0, none⟩ = some (.int .u8 q.kind) ∧ W.cell? ⟨E, 1, none⟩ = some (.int .i64 q.call) ∧ W.cell? ⟨E, 2, none⟩ = some (.int .i64 q.a) ∧ W.cell? ⟨E, 3, none⟩ = some (.int .i64 q.b) ∧ W.cell? ⟨E, 4, none⟩ = some (.int .i64 q.c) ∧ W.cell? ⟨E, 5, none⟩ = some (.int .i64 q.d) :=
  ⟨Whole.cell h 0, Whole.cell h 1, Whole.cell h 2, Whole.cell h 3, Whole.cell h 4, Whole.cell h 5⟩

/-- Where the run stands at the label. -/
def ToldAt (base Cb : Nat) (A : Option Addr) (n c : Nat) (x : Cw) (q : Ak) (P E : Nat) (W0 : World) (l : List Bx) (code : Int) (a' : Act) (w' : World) : Prop :=
  ∃ u3 u7 u8 u9 u10 u11 u12 u13 u14 u15 u16 u17 u18 u19 u20 u21 u22 u23 u24 u25 u26 u27 u28 u29 u30 u31 u32 u33 u34 u35 u36 u37 u38 u39 u40 u41 u42 u43 u44 u45 u46 u47 u48 : Value, a' = { tmps := #[.pointer (some ⟨Cb, 0, none⟩), .agg #[.int .u8 q.kind, .int .i64 q.call, .int .i64 q.a, .int .i64 q.b, .int .i64 q.c, .int .i64 q.d], .pointer (some ⟨P, 0, none⟩), u3, .pointer (some ⟨E, 0, none⟩), .int .u8 code, .int .i64 0, u7, u8, u9, u10, u11, u12, u13, u14, u15, u16, u17, u18, u19, u20, u21, u22, u23, u24, u25, u26, u27, u28, u29, u30, u31, u32, u33, u34, u35, u36, u37, u38, u39, u40, u41, u42, u43, u44, u45, u46, u47, u48], defers := [] } ∧
    Clu w' base Cb A n c { x with l := l } ∧ AskIn w' E q ∧ Below base W0 w'

section
variable {base Cb g j n c P f : Nat} {A : Option Addr} {lb : Array Value} {x : Cw} {q : Ak} {y y' : Bx} {tc : Int} {W0 : World}

end

end Go.Proofs.Ytdoaakohgmohkaa
