/-
  Texts that the walks of the statements over logs lean on, joined (BrMath, PhMath, CtMath, Hand, RegRound, RegionInv). Conditions: those that each theorem names.
-/
import Derived.Test.YtplejbgecihnpaaDoorJ0
import Derived.OrdersIn

/-
  Brains as plain data: what a record does, which may be. Leans on groups (CfMath). Conditions: those that each theorem names.
-/
namespace Go.Proofs.YtplejbgecihnpaaDoor
open Go.RowKit Go.Shelf

structure It where
  tok : Int
  ver : Int
  zone : Int
  warm : Bool
  deriving DecidableEq
structure Rf where
  st : Int
  fr : Int
  to_ : Int
  step : Int
  paused : Bool
  since : Int
  fails : Int
  deriving DecidableEq
/-- A brain; its group is told with no memory of its own (A none, n and c 0). -/
structure Br where
  ep : Int
  sq : Int
  set : Bool
  cf : Cf
  its : List It
  kps : List Kp
  rf : Rf
/-- A group without its memory. -/
def Cf.pl (x : Cf) : Cf := { x with A := none, n := 0, c := 0 }
set_option maxRecDepth 100000 in
theorem may_pl (x : Cf) : may x.pl = may x := rfl
set_option maxRecDepth 100000 in
theorem sameC_pl (x y : Cf) : sameC x.pl y.pl = sameC x y := rfl
set_option maxRecDepth 100000 in
theorem sameC_plain {x y : Cf} : sameC x y = true ↔ x.pl = y.pl := by
  rw [sameC_iff]
  constructor
  · rintro ⟨h1, h2, h3⟩
    simp only [Cf.fs, List.cons.injEq, and_true] at h1
    obtain ⟨g0, g1, g2, g3, g4, g5, g6, g7, g8, g9, g10, g11, g12⟩ := h1
    simp only [Cf.pl, g0, g1, g2, g3, g4, g5, g6, g7, g8, g9, g10, g11, g12, h2, h3]
  · intro h
    cases x; cases y
    simp only [Cf.pl, Cf.mk.injEq] at h
    obtain ⟨g0, g1, g2, g3, g4, g5, g6, g7, g8, g9, g10, g11, g12, g13, _, _, _, g14⟩ := h
    simp only [Cf.fs, g0, g1, g2, g3, g4, g5, g6, g7, g8, g9, g10, g11, g12, g13, g14, and_self]

def brMax : Int := 1099511627776
def numsB (l : List Int) : Bool := l.all isNum
/-- How many numbers a record of a kind has; -1: it is none, or a group's row. -/
def manyB (k : Int) : Int :=
  if k = 1 ∨ k = 12 ∨ k = 13 ∨ k = 15 ∨ k = 16 then 0 else if k = 5 ∨ k = 7 ∨ k = 10 ∨ k = 14 then 1 else if k = 9 ∨ k = 11 then 2 else if k = 3 ∨ k = 4 ∨ k = 6 then 3 else if k = 8 then 5 else -1
def legalB (a b : Int) : Bool :=
  if a = 1 then decide (b = 2 ∨ b = 8) else if a = 2 then decide (b = 3 ∨ b = 8) else if a = 3 then decide (b = 4) else if a = 4 then decide (b = 5 ∨ b = 3) else if a = 5 then decide (b = 6 ∨ b = 4) else if a = 6 then decide (b = 7) else if a = 7 then decide (b = 8) else if a = 9 then decide (b = 10 ∨ b = 8) else if a = 10 then decide (b = 1) else false
def keptB (b : Br) (id : Int) : Option Kp := b.kps.find? fun x => decide (x.id = id)
def meantB (b : Br) (t : Int) : Option It := b.its.find? fun x => decide (x.tok = t)
/-- The place of the one that counts; -1: there is none. -/
def findB (b : Br) (id : Int) : Int := match b.kps.findIdx? (fun x => decide (x.id = id)) with | some i => i | none => -1
def tokenB (b : Br) (t : Int) : Int := match b.its.findIdx? (fun x => decide (x.tok = t)) with | some i => i | none => -1
def putK (l : List Kp) (x : Kp) : List Kp := l.takeWhile (fun y => decide (y.id ≤ x.id)) ++ x :: l.dropWhile (fun y => decide (y.id ≤ x.id))
/-- The first one of an id, changed. -/
def setK (id : Int) (f : Kp → Kp) : List Kp → List Kp
  | [] => []
  | x :: l => if x.id = id then f x :: l else x :: setK id f l
def dropI (t : Int) (l : List It) : List It := l.eraseP fun x => decide (x.tok = t)
def dropK (id : Int) (l : List Kp) : List Kp := l.eraseP fun x => decide (x.id = id)

def confB (b : Br) (l : List Int) : Br :=
  if isRow l = true then { b with cf := if b.set then { ofRow l none 0 0 with f12 := b.cf.f12 } else ofRow l none 0 0, set := true } else b
def bootB (b : Br) : Br := if b.ep < brMax then { b with ep := b.ep + 1 } else b
def intentB (b : Br) (v z h : Int) : Br :=
  if b.set = true ∧ 1 ≤ v ∧ z < 4 ∧ h < 2 ∧ b.sq < brMax then { b with sq := b.sq + 1, its := b.its ++ [⟨b.sq + 1, v, z, decide (h = 1)⟩] } else b
def madeB (b : Br) (t id now : Int) : Br :=
  match meantB b t with
  | none => b
  | some i => if 1 ≤ id ∧ keptB b id = none then
      { b with its := dropI t b.its, kps := putK b.kps ⟨id, i.tok, i.ver, i.zone, if i.warm then 9 else 1, now, false, false⟩, rf := if b.rf.st = 1 then { b.rf with fails := 0 } else b.rf }
    else b
def takeB (b : Br) (id t v z now : Int) : Br :=
  if 1 ≤ id ∧ keptB b id = none then { b with kps := putK b.kps ⟨id, t, v, z, 8, now, false, false⟩ } else b
def phaseB (b : Br) (id p now : Int) : Br :=
  match keptB b id with
  | none => b
  | some x => if p < 11 ∧ legalB x.phase p = true then { b with kps := setK id (fun y => { y with phase := p, since := now, done := false }) b.kps } else b
def goneB_ (b : Br) (id : Int) : Br := if keptB b id = none then b else { b with kps := dropK id b.kps }
def guardB (b : Br) (id on : Int) : Br := if keptB b id = none then b else if on < 2 then { b with kps := setK id (fun y => { y with guard := decide (on = 1) }) b.kps } else b
def doneB (b : Br) (id : Int) : Br :=
  match keptB b id with
  | none => b
  | some x => if x.phase = 1 ∨ x.phase = 7 then { b with kps := setK id (fun y => { y with done := true }) b.kps } else b
def startB (b : Br) (to_ now : Int) : Br := if b.set = true ∧ ¬ b.rf.st = 1 ∧ 1 ≤ to_ then { b with rf := ⟨1, b.cf.f12, to_, 0, false, now, 0⟩ } else b
def failR (r : Rf) (m : Int) : Rf := if m ≤ wrap64 (r.fails + 1) then { r with to_ := r.fr, fails := 0 } else { r with fails := wrap64 (r.fails + 1) }
def goR (r : Rf) : Rf := if r.paused = true then { r with paused := false, step := wrap64 (r.step + 1) } else r
def pauseR (r : Rf) (now : Int) : Rf := if r.paused = true then r else { r with paused := true, since := now }
/-- What is done of a refresh that is active. -/
def refB (b : Br) (k x : Int) : Br :=
  if k = 5 then { b with rf := failR b.rf b.cf.f10 } else if k = 12 then { b with rf := { b.rf with st := 3, paused := false } } else if k = 13 then { b with rf := { b.rf with to_ := b.rf.fr } } else if k = 14 then { b with rf := pauseR b.rf x } else if k = 15 then { b with rf := goR b.rf } else if k = 16 then { b with rf := { b.rf with st := 2, paused := false }, cf := { b.cf with f12 := b.rf.to_ } } else b
def fitB (b : Br) (k x0 x1 x2 x3 x4 : Int) : Br :=
  if k = 1 then bootB b else if k = 3 then intentB b x0 x1 x2 else if k = 4 then madeB b x0 x1 x2 else if k = 6 then phaseB b x0 x1 x2 else if k = 7 then goneB_ b x0 else if k = 8 then takeB b x0 x1 x2 x3 x4 else if k = 9 then guardB b x0 x1 else if k = 10 then doneB b x0 else if k = 11 then startB b x0 x1 else if b.rf.st = 1 then refB b k x0 else b
/-- A brain behind a record. -/
def applyB (b : Br) (k : Int) (l : List Int) : Br :=
  if numsB l = true then (if k = 2 then confB b l else if manyB k = (l.length : Int) then fitB b k (l.getD 0 0) (l.getD 1 0) (l.getD 2 0) (l.getD 3 0) (l.getD 4 0) else b) else b
def allB (b : Br) (l : List (Int × List Int)) : Br := l.foldl (fun b r => applyB b r.1 r.2) b
def br0 : Br := ⟨0, 0, false, cf0, [], [], ⟨0, 0, 0, 0, false, 0, 0⟩⟩

/-- A brain may be. -/
structure RightB (b : Br) : Prop where
  ep : 0 ≤ b.ep ∧ b.ep ≤ brMax
  sq : 0 ≤ b.sq ∧ b.sq ≤ brMax
  its : ∀ x ∈ b.its, 1 ≤ x.tok ∧ x.tok ≤ b.sq
  itp : b.its.Pairwise fun x y => x.tok < y.tok
  kps : ∀ x ∈ b.kps, (1 ≤ x.id ∧ x.id ≤ brMax) ∧ 1 ≤ x.phase ∧ x.phase ≤ 10
  kpp : b.kps.Pairwise fun x y => x.id < y.id
  rf : b.rf.st = 1 → (1 ≤ b.rf.fr ∧ b.rf.fr ≤ brMax) ∧ 1 ≤ b.rf.to_ ∧ b.rf.to_ ≤ brMax
  no : b.set = false → b.its = [] ∧ b.rf.st = 0
  yes : b.set = true → may b.cf = true

section
variable {b : Br} {k : Int} {l : List Int}
set_option maxRecDepth 100000 in
theorem right_br0 : RightB br0 := ⟨by decide, by decide, by simp [br0], by simp [br0], by simp [br0], by simp [br0], by simp [br0], by simp [br0], by simp [br0]⟩

set_option maxRecDepth 100000 in
/-- A group of another version may be. -/
theorem may_ver {x : Cf} (h : may x = true) {v : Int} (h1 : 1 ≤ v) (h2 : v ≤ brMax) : may { x with f12 := v } = true := by
  simp only [may, Bool.and_eq_true] at h ⊢
  obtain ⟨h3, h4, h5⟩ := h
  refine ⟨?_, h4, h5⟩
  obtain ⟨g1, g2, g3, g4, g5, g6, g7⟩ := inB_iff.1 h3
  exact inB_iff.2 ⟨g1, g2, g3, g4, g5, g6, h1, h2⟩
set_option maxRecDepth 100000 in
theorem may_ver_bd {x : Cf} (h : may x = true) : 1 ≤ x.f12 ∧ x.f12 ≤ brMax := by
  simp only [may, Bool.and_eq_true] at h
  obtain ⟨_, _, _, _, _, _, g7⟩ := inB_iff.1 h.1
  exact g7

set_option maxRecDepth 100000 in
theorem putK_mem {l : List Kp} {x y : Kp} : y ∈ putK l x ↔ y = x ∨ y ∈ l := by
  simp only [putK, List.mem_append, List.mem_cons]
  have : y ∈ l ↔ y ∈ l.takeWhile (fun y => decide (y.id ≤ x.id)) ∨ y ∈ l.dropWhile (fun y => decide (y.id ≤ x.id)) := by
    rw [← List.mem_append, List.takeWhile_append_dropWhile]
  rw [this]
  constructor
  · rintro (h | h | h) <;> simp [h]
  · rintro (h | h | h) <;> simp [h]
set_option maxRecDepth 100000 in
theorem putK_len (l : List Kp) (x : Kp) : (putK l x).length = l.length + 1 := by
  have h : (l.takeWhile (fun y => decide (y.id ≤ x.id)) ++ l.dropWhile (fun y => decide (y.id ≤ x.id))).length = l.length := by rw [List.takeWhile_append_dropWhile]
  simp only [putK, List.length_append, List.length_cons] at h ⊢
  omega
set_option maxRecDepth 100000 in
theorem putK_pw {l : List Kp} {x : Kp} (h : l.Pairwise fun x y => x.id < y.id) (hn : ∀ y ∈ l, y.id ≠ x.id) : (putK l x).Pairwise fun x y => x.id < y.id := by
  induction l with
  | nil => simp [putK]
  | cons a l ih =>
    rw [List.pairwise_cons] at h
    by_cases ha : a.id ≤ x.id
    · have e : putK (a :: l) x = a :: putK l x := by simp [putK, ha]
      rw [e, List.pairwise_cons]
      refine ⟨fun y hy => ?_, ih h.2 fun y hy => hn y (List.mem_cons_of_mem _ hy)⟩
      rcases putK_mem.1 hy with rfl | hy
      · have := hn a (List.mem_cons_self ..); omega
      · exact h.1 y hy
    · have e : putK (a :: l) x = x :: a :: l := by simp [putK, ha]
      rw [e, List.pairwise_cons, List.pairwise_cons]
      refine ⟨fun y hy => ?_, h⟩
      rcases List.mem_cons.1 hy with rfl | hy
      · omega
      · have := h.1 y hy; omega
set_option maxRecDepth 100000 in
theorem setK_len (id : Int) (f : Kp → Kp) : ∀ l : List Kp, (setK id f l).length = l.length
  | [] => rfl
  | x :: l => by unfold setK; split <;> simp [setK_len id f l]
set_option maxRecDepth 100000 in
theorem setK_mem {id : Int} {f : Kp → Kp} {y : Kp} : ∀ {l : List Kp}, y ∈ setK id f l → y ∈ l ∨ ∃ x ∈ l, x.id = id ∧ y = f x
  | [], h => by simp [setK] at h
  | x :: l, h => by
    unfold setK at h
    split at h
    · rename_i e
      rcases List.mem_cons.1 h with rfl | h
      · exact .inr ⟨x, List.mem_cons_self .., e, rfl⟩
      · exact .inl (List.mem_cons_of_mem _ h)
    · rcases List.mem_cons.1 h with rfl | h
      · exact .inl (List.mem_cons_self ..)
      · rcases setK_mem h with h | ⟨z, hz, e⟩
        · exact .inl (List.mem_cons_of_mem _ h)
        · exact .inr ⟨z, List.mem_cons_of_mem _ hz, e⟩
set_option maxRecDepth 100000 in
theorem setK_pw {id : Int} {f : Kp → Kp} (hf : ∀ x, (f x).id = x.id) {l : List Kp} (h : l.Pairwise fun x y => x.id < y.id) : (setK id f l).Pairwise fun x y => x.id < y.id := by
  induction l with
  | nil => simp [setK]
  | cons a l ih =>
    rw [List.pairwise_cons] at h
    unfold setK
    split
    · rw [List.pairwise_cons]
      exact ⟨fun y hy => by rw [hf]; exact h.1 y hy, h.2⟩
    · rw [List.pairwise_cons]
      refine ⟨fun y hy => ?_, ih h.2⟩
      rcases setK_mem hy with hy | ⟨x, hx, _, rfl⟩
      · exact h.1 y hy
      · rw [hf]; exact h.1 x hx
set_option maxRecDepth 100000 in
/-- Where the changed one stands, and where the others do. -/
theorem setK_get {id : Int} {f : Kp → Kp} : ∀ {l : List Kp} {i : Nat}, l.findIdx? (fun x => decide (x.id = id)) = some i → ∀ j, (setK id f l)[j]? = if j = i then l[j]?.map f else l[j]?
  | [], i, h => by simp at h
  | x :: l, i, h => by
    intro j
    unfold setK
    rw [List.findIdx?_cons] at h
    by_cases hx : x.id = id
    · simp only [hx, decide_true, if_true] at h ⊢
      injection h with h
      subst h
      cases j <;> simp
    · simp only [hx, decide_false, Bool.false_eq_true, if_false] at h ⊢
      cases hl : l.findIdx? (fun x => decide (x.id = id)) with
      | none => rw [hl] at h; simp at h
      | some i' =>
        rw [hl] at h
        simp only [Option.map_some, Option.some.injEq] at h
        subst h
        cases j with
        | zero => simp
        | succ j => simp [setK_get hl j]
set_option maxRecDepth 100000 in
theorem kept_none {id : Int} : keptB b id = none ↔ ∀ x ∈ b.kps, x.id ≠ id := by
  simp [keptB, List.find?_eq_none]
set_option maxRecDepth 100000 in
theorem kept_some {id : Int} {x : Kp} (h : keptB b id = some x) : x ∈ b.kps ∧ x.id = id := by
  refine ⟨List.mem_of_find?_eq_some h, ?_⟩
  have := List.find?_some h
  simpa using this
set_option maxRecDepth 100000 in
theorem meant_some {t : Int} {x : It} (h : meantB b t = some x) : x ∈ b.its ∧ x.tok = t := by
  refine ⟨List.mem_of_find?_eq_some h, ?_⟩
  have := List.find?_some h
  simpa using this
set_option maxRecDepth 100000 in
theorem legal_bd {a p : Int} (h : legalB a p = true) : 1 ≤ p ∧ p ≤ 10 := by
  unfold legalB at h
  repeat' split at h
  all_goals first | (simp only [decide_eq_true_eq] at h; omega) | simp at h
end

end Go.Proofs.YtplejbgecihnpaaDoor

/-
  Phases as plain data: which may follow, what one is due for, how they go on to Ending, their names. Plain: no walk.
-/
namespace Go.Proofs.YtplejbgecihnpaaDoor
open Go.RowKit Go.Shelf

/-- The phases that may follow the one of that number, in order; nought: none. -/
def nxA (k : Nat) : Nat := [0, 2, 3, 4, 5, 6, 7, 8, 0, 10, 1].getD k 0
def nxB (k : Nat) : Nat := [0, 8, 8, 0, 3, 4, 0, 0, 0, 8, 0].getD k 0
set_option maxRecDepth 100000 in
theorem ph_cases {k : Nat} (h : k < 11) : k = 0 ∨ k = 1 ∨ k = 2 ∨ k = 3 ∨ k = 4 ∨ k = 5 ∨ k = 6 ∨ k = 7 ∨ k = 8 ∨ k = 9 ∨ k = 10 := by omega
set_option maxRecDepth 100000 in
theorem nxA_out {k : Nat} (h : 11 ≤ k) : nxA k = 0 := by simp [nxA, List.getD, h]
set_option maxRecDepth 100000 in
theorem nxB_out {k : Nat} (h : 11 ≤ k) : nxB k = 0 := by simp [nxB, List.getD, h]
set_option maxRecDepth 100000 in
theorem nxA_lt (k : Nat) : nxA k < 11 := by
  rcases Nat.lt_or_ge k 11 with h | h
  · rcases ph_cases h with rfl | rfl | rfl | rfl | rfl | rfl | rfl | rfl | rfl | rfl | rfl <;> decide
  · rw [nxA_out h]; decide
set_option maxRecDepth 100000 in
theorem nxB_lt (k : Nat) : nxB k < 11 := by
  rcases Nat.lt_or_ge k 11 with h | h
  · rcases ph_cases h with rfl | rfl | rfl | rfl | rfl | rfl | rfl | rfl | rfl | rfl | rfl <;> decide
  · rw [nxB_out h]; decide
set_option maxRecDepth 100000 in
theorem nxB_of (k : Nat) (h : nxA k = 0) : nxB k = 0 := by
  rcases Nat.lt_or_ge k 11 with h1 | h1
  · rcases ph_cases h1 with rfl | rfl | rfl | rfl | rfl | rfl | rfl | rfl | rfl | rfl | rfl <;> first | rfl | (exact absurd h (by decide))
  · exact nxB_out h1
/-- Those that may follow, as a row. -/
def nxs (k : Nat) : List Nat := if nxA k = 0 then [] else if nxB k = 0 then [nxA k] else [nxA k, nxB k]
def legalP (a b : Nat) : Bool := (nxs a).contains b
def standsP (k : Nat) : Bool := decide (k = 1) || (decide (k = 2) || (decide (k = 3) || (decide (k = 4) || decide (k = 10))))
def goesP (k : Nat) : Bool := decide (k = 5) || (decide (k = 6) || (decide (k = 7) || decide (k = 8)))
/-- How one goes on, from itself to Ending. -/
def pathP (k : Nat) : List Nat := [[], [1, 2, 3, 4, 5, 6, 7, 8], [2, 3, 4, 5, 6, 7, 8], [3, 4, 5, 6, 7, 8], [4, 5, 6, 7, 8], [5, 6, 7, 8], [6, 7, 8], [7, 8], [8], [9, 10, 1, 2, 3, 4, 5, 6, 7, 8], [10, 1, 2, 3, 4, 5, 6, 7, 8]].getD k []
set_option maxRecDepth 100000 in
theorem pathP_out {k : Nat} (h : 11 ≤ k) : pathP k = [] := by simp [pathP, List.getD, h]
def isP (k : Nat) : Bool := decide (1 ≤ k) && decide (k < 11)
set_option maxRecDepth 100000 in
theorem pathP_no {k : Nat} (h : isP k = false) : pathP k = [] := by
  rcases Nat.lt_or_ge k 11 with h1 | h1
  · have : k = 0 := by simp [isP] at h; omega
    subst this; rfl
  · exact pathP_out h1
set_option maxRecDepth 100000 in
theorem pathP_yes {k : Nat} (h : isP k = true) : pathP k = k :: pathP (nxA k) := by
  simp only [isP, Bool.and_eq_true, decide_eq_true_eq] at h
  rcases ph_cases h.2 with rfl | rfl | rfl | rfl | rfl | rfl | rfl | rfl | rfl | rfl | rfl
  all_goals first | rfl | omega
set_option maxRecDepth 100000 in
theorem pathP_len (k : Nat) : (pathP k).length ≤ 10 := by
  rcases Nat.lt_or_ge k 11 with h | h
  · rcases ph_cases h with rfl | rfl | rfl | rfl | rfl | rfl | rfl | rfl | rfl | rfl | rfl <;> decide
  · rw [pathP_out h]; decide

def nmP (k : Nat) : List UInt8 := [[], [104, 101, 108, 100], [121, 111, 117, 110, 103], [106, 111, 105, 110, 105, 110, 103], [115, 101, 114, 118, 105, 110, 103], [108, 101, 97, 118, 105, 110, 103], [108, 101, 102, 116], [104, 101, 108, 100, 111, 117, 116], [101, 110, 100, 105, 110, 103], [119, 97, 114, 109, 101, 100], [119, 97, 107, 105, 110, 103]].getD k []
set_option maxRecDepth 100000 in
theorem nmP_out {k : Nat} (h : 11 ≤ k) : nmP k = [] := by simp [nmP, List.getD, h]

/-- For how long one waits in a phase, and what for; whether its hook is done. -/
def dueTo (k : Nat) : Nat := [0, 2, 3, 0, 0, 0, 7, 8].getD k 0
def dueWait (c : Cf) (k : Nat) : Int := if k = 1 then c.f4 else if k = 2 then c.f6 else if k = 6 then c.f7 else c.f5
def dueDone (x : Kp) (k : Nat) : Bool := if k = 1 ∨ k = 7 then x.done else false
def waitsP (k : Nat) : Bool := decide (k = 1) || (decide (k = 2) || (decide (k = 6) || decide (k = 7)))
/-- Whether one in a phase is due at a time: times as Go's ints count. -/
def dueB (x : Kp) (c : Cf) (k : Nat) (now : Int) : Bool := waitsP k && (dueDone x k || decide (dueWait c k ≤ wrap64 (now - x.since)))
def dueK (x : Kp) (c : Cf) (k : Nat) (now : Int) : Nat := if dueB x c k now = true then dueTo k else 0
/-- The place of the first one of that id; -1: there is none. -/
def findP (l : List Kp) (id : Int) : Int := match l.findIdx? (fun x => decide (x.id = id)) with | some i => i | none => -1
set_option maxRecDepth 100000 in
theorem findP_at {l : List Kp} {id : Int} {j : Nat} {x : Kp} (hx : l[j]? = some x) (h : x.id = id) (hp : ∀ y ∈ l.take j, ¬ y.id = id) : findP l id = (j : Int) := by
  have : l.findIdx? (fun x => decide (x.id = id)) = some j := by
    rw [List.findIdx?_eq_some_iff_getElem]
    obtain ⟨h1, h2⟩ := List.getElem?_eq_some_iff.1 hx
    refine ⟨h1, by rw [h2]; simpa using h, fun k hk => ?_⟩
    have hm : l[k] ∈ l.take j := by
      rw [List.mem_take_iff_getElem]
      exact ⟨k, by omega, rfl⟩
    simpa using hp _ hm
  simp [findP, this]
set_option maxRecDepth 100000 in
theorem findP_none {l : List Kp} {id : Int} (hp : ∀ y ∈ l, ¬ y.id = id) : findP l id = -1 := by
  have : l.findIdx? (fun x => decide (x.id = id)) = none := by
    rw [List.findIdx?_eq_none_iff]
    intro x hx
    simpa using hp x hx
  simp [findP, this]
set_option maxRecDepth 100000 in
/-- Where it is, or is not. -/
theorem findP_is (l : List Kp) (id : Int) : (findP l id = -1 ∧ ∀ y ∈ l, ¬ y.id = id) ∨ ∃ j x, l[j]? = some x ∧ x.id = id ∧ (∀ y ∈ l.take j, ¬ y.id = id) ∧ findP l id = (j : Int) := by
  cases h : l.findIdx? (fun x => decide (x.id = id)) with
  | none =>
    left
    refine ⟨by simp [findP, h], ?_⟩
    rw [List.findIdx?_eq_none_iff] at h
    intro y hy
    simpa using h y hy
  | some j =>
    right
    rw [List.findIdx?_eq_some_iff_getElem] at h
    obtain ⟨h1, h2, h3⟩ := h
    have hx : l[j]? = some l[j] := List.getElem?_eq_getElem h1
    have hp : ∀ y ∈ l.take j, ¬ y.id = id := by
      intro y hy
      rw [List.mem_take_iff_getElem] at hy
      obtain ⟨k, hk, rfl⟩ := hy
      simpa using h3 k (by omega)
    exact ⟨j, l[j], hx, by simpa using h2, hp, findP_at hx (by simpa using h2) hp⟩

end Go.Proofs.YtplejbgecihnpaaDoor

/-
  Counts as plain data: which version is wanted, what is old, how many there are of what, zones. Conditions: those that each theorem names.
-/
namespace Go.Proofs.YtplejbgecihnpaaDoor
open Go.RowKit Go.Shelf

/-- The version that is wanted. -/
def verB (p : Br) : Int := if p.rf.st = 1 then p.rf.to_ else p.cf.f12
def goesI (z : Int) : Bool := decide (z = 5) || (decide (z = 6) || (decide (z = 7) || decide (z = 8)))
def standsI (z : Int) : Bool := decide (z = 1) || (decide (z = 2) || (decide (z = 3) || (decide (z = 4) || decide (z = 10))))
theorem goesI_nat (k : Nat) : goesI (k : Int) = goesP k := by
  unfold goesI goesP
  have h : ∀ m : Nat, decide ((k : Int) = (m : Int)) = decide (k = m) := fun m => by by_cases e : k = m <;> simp [e] <;> omega
  have h5 := h 5
  have h6 := h 6
  have h7 := h 7
  have h8 := h 8
  rw [show (5 : Int) = ((5 : Nat) : Int) from rfl, show (6 : Int) = ((6 : Nat) : Int) from rfl, show (7 : Int) = ((7 : Nat) : Int) from rfl, show (8 : Int) = ((8 : Nat) : Int) from rfl, h5, h6, h7, h8]
theorem standsI_nat (k : Nat) : standsI (k : Int) = standsP k := by
  unfold standsI standsP
  have h : ∀ m : Nat, decide ((k : Int) = (m : Int)) = decide (k = m) := fun m => by by_cases e : k = m <;> simp [e] <;> omega
  have h1 := h 1
  have h2 := h 2
  have h3 := h 3
  have h4 := h 4
  have h5 := h 10
  rw [show (1 : Int) = ((1 : Nat) : Int) from rfl, show (2 : Int) = ((2 : Nat) : Int) from rfl, show (3 : Int) = ((3 : Nat) : Int) from rfl, show (4 : Int) = ((4 : Nat) : Int) from rfl, show (10 : Int) = ((10 : Nat) : Int) from rfl, h1, h2, h3, h4, h5]
/-- Whether one that is meant, or kept, is old. -/
def oldI (p : Br) (x : It) : Bool := !decide (x.ver = verB p)
def oldK (p : Br) (x : Kp) : Bool := !goesI x.phase && (!decide (x.ver = verB p) && (!x.guard || !p.cf.sk))
/-- Counts. -/
structure Cn where
  ver : Int
  old : Nat
  st : Nat
  warm : Nat
  all : Nat
  serve : Nat
  want : Int
  fl : Int
  bd : Int
abbrev Cn.cells (c : Cn) : Array Value := #[.int .i64 c.ver, .int .i64 (c.old : Int), .int .i64 (c.st : Int), .int .i64 (c.warm : Int), .int .i64 (c.all : Int), .int .i64 (c.serve : Int), .int .i64 c.want, .int .i64 c.fl, .int .i64 c.bd]
abbrev Cn.v (c : Cn) : Value := .agg #[.int .i64 c.ver, .int .i64 (c.old : Int), .int .i64 (c.st : Int), .int .i64 (c.warm : Int), .int .i64 (c.all : Int), .int .i64 (c.serve : Int), .int .i64 c.want, .int .i64 c.fl, .int .i64 c.bd]
def itOld (p : Br) (l : List It) : Nat := l.countP (oldI p)
def itSt (l : List It) : Nat := l.countP fun x => !x.warm
def itWarm (l : List It) : Nat := l.countP It.warm
def kpOld (p : Br) (l : List Kp) : Nat := l.countP (oldK p)
def kpSt (l : List Kp) : Nat := l.countP fun x => standsI x.phase
def kpWarm (l : List Kp) : Nat := l.countP fun x => decide (x.phase = 9)
def kpServe (l : List Kp) : Nat := l.countP fun x => decide (x.phase = 4)
def oldB (p : Br) : Nat := itOld p p.its + kpOld p p.kps
def wantB (p : Br) : Int := if p.rf.st = 1 ∧ p.rf.paused = false ∧ 0 < oldB p then wrap64 (p.cf.f0 + p.cf.f2) else p.cf.f0
def countB (p : Br) : Cn := ⟨verB p, oldB p, itSt p.its + kpSt p.kps, itWarm p.its + kpWarm p.kps, p.its.length + p.kps.length, kpServe p.kps, wantB p, floorOf p.cf, boundOf p.cf⟩
def zonesB (p : Br) : List Int := (p.its.filter fun x => !x.warm).map It.zone ++ (p.kps.filter fun x => standsI x.phase).map Kp.zone
def fullB (p : Br) : Bool := decide (boundOf p.cf ≤ ((p.its.length + p.kps.length : Nat) : Int))
theorem countP_next {α : Type} (q : α → Bool) {l : List α} {j : Nat} {x : α} (h : l[j]? = some x) : (l.take (j + 1)).countP q = (l.take j).countP q + (if q x then 1 else 0) := by
  obtain ⟨h1, h2⟩ := List.getElem?_eq_some_iff.1 h
  rw [List.take_succ_eq_append_getElem h1, List.countP_append, h2]
  simp [List.countP_cons]
theorem countP_all {α : Type} (q : α → Bool) (l : List α) : (l.take l.length).countP q = l.countP q := by rw [List.take_length]
theorem countP_le' {α : Type} (q : α → Bool) (l : List α) (j : Nat) : (l.take j).countP q ≤ l.length := Nat.le_trans List.countP_le_length (by rw [List.length_take]; omega)
theorem filter_at {α : Type} (q : α → Bool) {l : List α} {j : Nat} {x : α} (h : l[j]? = some x) : (l.take (j + 1)).filter q = (l.take j).filter q ++ (if q x then [x] else []) := by
  obtain ⟨h1, h2⟩ := List.getElem?_eq_some_iff.1 h
  rw [List.take_succ_eq_append_getElem h1, List.filter_append, h2]
  cases hq : q x <;> simp [hq]
/-- With one more that is kept. -/
theorem count_more (p : Br) (x : Kp) : (countB { p with kps := p.kps ++ [x] }).all = (countB p).all + 1 ∧ (countB { p with kps := p.kps ++ [x] }).old = (countB p).old + (if oldK p x then 1 else 0) ∧ (countB { p with kps := p.kps ++ [x] }).st = (countB p).st + (if standsI x.phase then 1 else 0) ∧ (countB { p with kps := p.kps ++ [x] }).ver = (countB p).ver ∧ (countB { p with kps := p.kps ++ [x] }).fl = (countB p).fl ∧ (countB { p with kps := p.kps ++ [x] }).bd = (countB p).bd := by
  refine ⟨?_, ?_, ?_, rfl, rfl, rfl⟩
  · simp only [countB, List.length_append, List.length_singleton, Nat.add_assoc]
  · show itOld p p.its + (p.kps ++ [x]).countP (oldK p) = itOld p p.its + p.kps.countP (oldK p) + _
    rw [List.countP_append, List.countP_singleton, Nat.add_assoc]
  · show itSt p.its + (p.kps ++ [x]).countP (fun x => standsI x.phase) = itSt p.its + p.kps.countP (fun x => standsI x.phase) + _
    rw [List.countP_append, List.countP_singleton, Nat.add_assoc]
theorem oldB_eq (p : Br) : oldB p = itOld p p.its + kpOld p p.kps := rfl

end Go.Proofs.YtplejbgecihnpaaDoor

/-
  A region that draws its order, taken by hand under a condition: one step an operation, those whose guard is false too. Conditions: those that each theorem names.
-/
namespace Go.Proofs.YtplejbgecihnpaaDoor
open Go.RowKit Go.Shelf

section
variable {P : Program} {ops : Array Oper} {Q : Exit → Act → World → Prop} {S : World → Prop} {md : Region.Mode} {fuel i : Nat} {listed : Array Bool} {a : Act} {w : World} {d : Option Tmp} {op : Op} {t : TypeId} {pos : String} {after : Array Edge} {g : Option (Nat × Bool)}

set_option maxRecDepth 100000 in
/-- An operation that yields v in every world that meets S. -/
theorem takeH {v : Value} (hi : ops[i]? = some { dst := d, op := op, type := t, pos := pos, after := after, guard := g })
    (hs : Region.noSelect ops = true) (hf : Region.free md ops listed i = true) (hr : (Region.ready md ops listed).contains i = true)
    (hQ : ∀ c a w, Q (.panic c) (a.put d v) w → Q (.panic c) a w) (hw : Region.wanted { dst := d, op := op, type := t, pos := pos, after := after, guard := g } (yielded ops a.tmps) = true)
    (hy : ∀ w, S w → (execOp a.eval { dst := d, op := op, type := t, pos := pos, after := after, guard := g }).run P w = .ok (.value v) w) (hS : S w)
    (h : wpAnyH P md ops Q S fuel (listed.setIfInBounds i true) (a.put d v) w) : wpAnyH P md ops Q S (fuel + 1) listed a w :=
  wpAnyH_take hi hs hf hr hQ (Or.inl ⟨hw, hy⟩) hS h

set_option maxRecDepth 100000 in
/-- An operation whose guard says no. -/
theorem skipH (hi : ops[i]? = some { dst := d, op := op, type := t, pos := pos, after := after, guard := g })
    (hs : Region.noSelect ops = true) (hf : Region.free md ops listed i = true) (hr : (Region.ready md ops listed).contains i = true)
    (hQ : ∀ c a w, Q (.panic c) (a.put d undef) w → Q (.panic c) a w) (hw : Region.wanted { dst := d, op := op, type := t, pos := pos, after := after, guard := g } (yielded ops a.tmps) = false) (hS : S w)
    (h : wpAnyH P md ops Q S fuel (listed.setIfInBounds i true) (a.put d undef) w) : wpAnyH P md ops Q S (fuel + 1) listed a w :=
  wpAnyH_take hi hs hf hr hQ (Or.inr ⟨hw, rfl⟩) hS h

set_option maxRecDepth 100000 in
/-- An operation that is all that may come up. -/
theorem oneH (hi : ops[i]? = some { dst := d, op := op, type := t, pos := pos, after := after, guard := g }) (hr : Region.ready md ops listed = [i])
    (hw : Region.wanted { dst := d, op := op, type := t, pos := pos, after := after, guard := g } (yielded ops a.tmps) = true)
    (h : ∀ K' : Act → World → Prop, Shut (∀ a w, S w → (S w → wpAnyH P md ops Q S fuel (listed.setIfInBounds i true) a w) → K' a w) → ({ dst := d, op := op, type := t, pos := pos, after := after, guard := g } : Oper).wp P a w K' Q) : wpAnyH P md ops Q S (fuel + 1) listed a w :=
  wpAnyH_ready hr (by simp) (AllReadyH.cons hi (fun K' hK => by rw [if_pos hw]; exact h K' hK) AllReadyH.nil)

set_option maxRecDepth 100000 in
/-- Two operations of which either may come up. -/
theorem twoH {j : Nat} {d' : Option Tmp} {op' : Op} {t' : TypeId} {pos' : String} {after' : Array Edge} {g' : Option (Nat × Bool)} (hi : ops[i]? = some { dst := d, op := op, type := t, pos := pos, after := after, guard := g }) (hj : ops[j]? = some { dst := d', op := op', type := t', pos := pos', after := after', guard := g' }) (hr : Region.ready md ops listed = [i, j])
    (hw : Region.wanted { dst := d, op := op, type := t, pos := pos, after := after, guard := g } (yielded ops a.tmps) = true) (hw' : Region.wanted { dst := d', op := op', type := t', pos := pos', after := after', guard := g' } (yielded ops a.tmps) = true)
    (h : ∀ K' : Act → World → Prop, Shut (∀ a w, S w → (S w → wpAnyH P md ops Q S fuel (listed.setIfInBounds i true) a w) → K' a w) → ({ dst := d, op := op, type := t, pos := pos, after := after, guard := g } : Oper).wp P a w K' Q)
    (h' : ∀ K' : Act → World → Prop, Shut (∀ a w, S w → (S w → wpAnyH P md ops Q S fuel (listed.setIfInBounds j true) a w) → K' a w) → ({ dst := d', op := op', type := t', pos := pos', after := after', guard := g' } : Oper).wp P a w K' Q) : wpAnyH P md ops Q S (fuel + 1) listed a w :=
  wpAnyH_ready hr (by simp) (AllReadyH.cons hi (fun K' hK => by rw [if_pos hw]; exact h K' hK) (AllReadyH.cons hj (fun K' hK => by rw [if_pos hw']; exact h' K' hK) AllReadyH.nil))

set_option maxRecDepth 100000 in
/-- An append whose run is known. -/
theorem wp_appendH {P : Program} {K : Act → World → Prop} {Q : Exit → Act → World → Prop} {a : Act} {w w' : World} {dst : Option Tmp} {u t : TypeId} {pos : String} {after : Array Edge} {g : Option (Nat × Bool)} {x y : Operand} {vs vx v' : Value} (hx : a.eval x = vs) (hy : a.eval y = vx) (hr : (Builtin.append_ #[u, u] t #[vs, vx]).run P w = .ok v' w') (h : K (a.put dst v') w') :
    ({ dst := dst, op := .call { callee := .builtin .append, args := #[x, y], argTypes := #[u, u] }, type := t, pos := pos, after := after, guard := g } : Oper).wp P a w K Q := by
  unfold Oper.wp execOp
  simp only [resolve, invoke, builtin, Sem.run_bind, Sem.run_pure, Result.andThen_ok, List.map_toArray, List.map_cons, List.map_nil, hx, hy, hr]
  exact h
end

end Go.Proofs.YtplejbgecihnpaaDoor

/-
  A region that draws its order, of operations that enter nothing, inside any fence, in a round or not: taken by hand as outside of one. Conditions: those that each theorem names.
-/
namespace Go.Proofs.YtplejbgecihnpaaDoor
open Go.RowKit Go.Shelf

/-- An operation that enters nothing. -/
def stillOp (o : Oper) : Bool :=
  match o.op with
  | .move _ | .assign _ | .pick _ _ _ | .load _ _ | .store _ _ _ | .nilCheck _ | .binOp _ _ _ _ _ | .unOp _ _ _ | .fieldAddr _ _ _ | .indexAddr _ _ _ => true
  | _ => false
def Flat : Result Next → Prop
  | .ok (.value _) _ => True
  | .ok .skip _ => True
  | .halt _ _ => True
  | _ => False
set_option maxRecDepth 100000 in
theorem flat_v (s : Sem Value) (P : Program) (w : World) : Flat ((do pure (Next.value (← s)) : Sem Next).run P w) := by
  simp only [Sem.run_bind]
  cases h : s.run P w with
  | ok v w' => simp [Result.andThen, Sem.run_pure, Flat]
  | halt h w' => simp [Result.andThen, Flat]
set_option maxRecDepth 100000 in
theorem flat_u (s : Sem Unit) (P : Program) (w : World) : Flat ((do s; pure Next.skip : Sem Next).run P w) := by
  simp only [Sem.run_bind]
  cases h : s.run P w with
  | ok v w' => simp [Result.andThen, Sem.run_pure, Flat]
  | halt h w' => simp [Result.andThen, Flat]
set_option maxRecDepth 100000 in
theorem still_flat {o : Oper} (h : stillOp o = true) (ρ : Operand → Value) (P : Program) (w : World) : Flat ((execOp ρ o).run P w) := by
  unfold stillOp at h
  unfold execOp
  cases ho : o.op <;> simp only [ho, Bool.false_eq_true] at h ⊢
  all_goals first | exact flat_v _ _ _ | exact flat_u _ _ _ | skip
  · simp only [Sem.run_pure, Flat]
  · simp only [Sem.run_pure, Flat]
  · simp only [Sem.run_bind]
    generalize Sem.run P (asBool _) w = r
    cases r <;> simp [Result.andThen, Sem.run_pure, Flat]
  · split
    · trivial
    · trivial
    · trivial
    · split
      · trivial
      · simp only [Sem.run_bind]
        generalize Sem.run P program w = r
        cases r with
        | halt _ _ => simp [Result.andThen, Flat]
        | ok v w1 =>
          simp only [Result.andThen_ok]
          generalize Sem.run P (nilAhead _ _ _ _) w1 = r2
          cases r2 with
          | halt _ _ => simp [Result.andThen, Flat]
          | ok v2 w2 =>
            simp only [Result.andThen_ok]
            split
            · simp only [Sem.run_bind]
              trivial
            · simp only [Sem.run_pure, Flat]
      · simp only [Sem.run_pure, Flat]
    · simp only [Sem.run_pure, Flat]

set_option maxRecDepth 100000 in
theorem upon_in {F : Fence} {n : Nat} {P : Program} {o : Oper} {a : Act} {K : Act → World → Prop} {Q : Exit → Act → World → Prop} {r : Result Next} (hr : Flat r) (h : o.upon P a K Q r) : o.uponIn F n P a K Q r := by
  cases r with
  | ok x w' => cases x <;> first | exact h | exact hr.elim
  | halt x w' => cases x <;> exact h
set_option maxRecDepth 100000 in
theorem still_about {o : Oper} (h : stillOp o = true) (P : Program) (w : World) (ρ : Operand → Value) : o.about P w ρ = none := by
  unfold stillOp at h
  unfold Oper.about
  cases ho : o.op <;> simp only [ho, Bool.false_eq_true] at h ⊢
set_option maxRecDepth 100000 in
theorem still_in {F : Fence} {n : Nat} {P : Program} {o : Oper} {a : Act} {w : World} {K : Act → World → Prop} {Q : Exit → Act → World → Prop} (hs : stillOp o = true) (h : o.wp P a w K Q) : o.wpIn F n P a w K Q := by
  refine ⟨fun f hf => (by rw [still_about hs] at hf; cases hf), ?_⟩
  rw [Oper.semAt_eq _ _ _ (fun c hc => by unfold stillOp at hs; rw [hc] at hs; cases hs)]
  exact upon_in (still_flat hs _ _ _) h
section
variable {F : Fence} {n : Nat} {P : Program} {ops : Array Oper} {Q : Exit → Act → World → Prop} {S : World → Prop}
set_option maxRecDepth 100000 in
theorem stillOp_in (hall : ops.all stillOp = true) (hL : ∀ a w, ¬ Q .outgrown a w) {i : Nat} {K : Act → World → Prop} {a : Act} {w : World} (h : wpOp P ops Q i K a w) : wpOpIn F n P ops Q i K a w := by
  unfold wpOp at h
  unfold wpOpIn
  cases ho : ops[i]? with
  | none => rw [ho] at h; exact h
  | some o =>
    rw [ho] at h
    have hs : stillOp o = true := by
      have := Array.all_eq_true_iff_forall_mem.1 hall o (Array.mem_of_getElem? ho)
      exact this
    dsimp only at h ⊢
    split
    · rename_i hw
      rw [if_pos hw] at h
      rcases h with h | h
      · exact still_in hs h
      · exact h.2.elim fun a h => h.elim fun w h => (hL a w h).elim
    · rename_i hw
      rw [if_neg hw] at h
      exact ⟨fun f hf => (by rw [still_about hs] at hf; cases hf), h⟩
set_option maxRecDepth 100000 in
theorem stillAny_in (hall : ops.all stillOp = true) (hL : ∀ a w, ¬ Q .outgrown a w) : ∀ (fuel : Nat) (listed : Array Bool) (a : Act) (w : World), wpAny P .any ops Q fuel listed a w → wpAnyIn F n P .any ops Q fuel listed a w
  | 0, _, _, _, h => h
  | fuel + 1, _, _, _, h => ⟨h.1, fun i hi => wpOpIn_mono (fun a' w' h' => stillAny_in hall hL fuel _ a' w' h') (stillOp_in hall hL (h.2 i hi))⟩
set_option maxRecDepth 100000 in
/-- Such a region, by hand, in any fence. -/
theorem wpIn_region_hand {id : Nat} {a : Act} {w : World} (hm : P.follows .mixedOrders = true) (hall : ops.all stillOp = true) (hL : ∀ a w, ¬ Q .outgrown a w) (hS : S w.drew)
    (h : S w.drew → wpAnyH P .any ops Q S ops.size (Array.replicate ops.size false) a w.drew) : (Code.region id ops true).wpIn F n P Q a w :=
  wpIn_region_any hm (stillAny_in hall hL _ _ _ _ (wpAny_of_held _ _ _ _ (h hS)))
end

end Go.Proofs.YtplejbgecihnpaaDoor

/-
  A region that draws its order, by an invariant: what holds behind any operations that have come up. One step a operation, whatever the order. Conditions: those that each theorem names.
-/
namespace Go.Proofs.YtplejbgecihnpaaDoor
open Go.RowKit Go.Shelf

section
variable {P : Program} {ops : Array Oper} {Q : Exit → Act → World → Prop}

/-- Every operation waits only for operations that stand ahead of it. -/
def lowOnly (ops : Array Oper) : Bool := (List.range ops.size).all fun i => ((ops[i]?).map (·.after.all fun e => !Region.binds .any e || decide (e.on < i))).getD true

set_option maxRecDepth 100000 in
theorem lowOnly_at (h : lowOnly ops = true) {i : Nat} {o : Oper} (ho : ops[i]? = some o) : ∀ e ∈ o.after, Region.binds .any e = true → e.on < i := by
  intro e he hb
  have hlt : i < ops.size := (Array.getElem?_eq_some_iff.1 ho).1
  have h1 := List.all_eq_true.1 h i (List.mem_range.2 hlt)
  simp only [ho, Option.map_some, Option.getD_some, Array.all_eq_true_iff_forall_mem] at h1
  have h2 := h1 e he
  simpa [hb] using h2

set_option maxRecDepth 100000 in
theorem ready_none {listed : Array Bool} (hl : lowOnly ops = true) (hs : listed.size = ops.size) (h : Region.ready .any ops listed = []) : ∀ n i, i < n → i < ops.size → listed.getD i false = true := by
  intro n
  induction n with
  | zero => intro i h; omega
  | succ n ih =>
    intro i hi hlt
    cases hv : listed.getD i false with
    | true => rfl
    | false =>
      exfalso
      have hm : i ∈ Region.ready .any ops listed := by
        refine mem_ready.2 ⟨?_, ops[i], Array.getElem?_eq_getElem hlt, fun e he hb => ?_⟩
        · have : i < listed.size := by omega
          simp [this] at hv ⊢
          exact hv
        · have := lowOnly_at hl (Array.getElem?_eq_getElem hlt) e he hb
          exact ih e.on (by omega) (by omega)
      rw [h] at hm
      cases hm

set_option maxRecDepth 100000 in
theorem count_zero_all {l : List Bool} (h : l.count false = 0) : ∀ i, i < l.length → l[i]? = some true := by
  intro i hi
  rw [List.getElem?_eq_getElem hi]
  cases hv : l[i] with
  | true => rfl
  | false => exact absurd (List.getElem_mem hi) (by rw [hv]; exact List.count_eq_zero.1 h)

set_option maxRecDepth 100000 in
theorem set_L {listed : Array Bool} {i : Nat} (hi : i < listed.size) : (fun j => (listed.setIfInBounds i true).getD j false) = fun j => if j = i then true else listed.getD j false := by
  funext j
  by_cases h : j = i
  · subst h; simp [hi]
  · rw [if_neg h, getD_set_ne false (Ne.symm h)]

set_option maxRecDepth 100000 in
theorem count_set {listed : Array Bool} {i : Nat} (h : listed.getD i true = false) : (listed.setIfInBounds i true).toList.count false < listed.toList.count false := by
  have hi : i < listed.size := by
    rcases Nat.lt_or_ge i listed.size with h' | h'
    · exact h'
    · simp [Array.getElem?_eq_none h'] at h
  have hv : listed.toList[i]'(by simpa using hi) = false := by simpa [hi] using h
  have hpos : 0 < listed.toList.count false := List.count_pos_iff.2 (hv ▸ List.getElem_mem _)
  rw [Array.toList_setIfInBounds, List.count_set (by simpa using hi)]
  simp only [hv]
  simp only [beq_self_eq_true, if_true, show ((true == false) = true) = False by simp, if_false]
  omega

set_option maxRecDepth 100000 in
theorem wpAny_inv (hl : lowOnly ops = true) (Φ : (Nat → Bool) → Act → World → Prop)
    (step : ∀ i o L a w, ops[i]? = some o → L i = false → (∀ e ∈ o.after, Region.binds .any e = true → L e.on = true) → Φ L a w → wpOp P ops Q i (Φ (fun j => if j = i then true else L j)) a w)
    (fin : ∀ L a w, (∀ i, i < ops.size → L i = true) → Φ L a w → Q .normal a w) :
    ∀ (fuel : Nat) (listed : Array Bool) (a : Act) (w : World), listed.size = ops.size → listed.toList.count false ≤ fuel → Φ (fun j => listed.getD j false) a w → wpAny P .any ops Q fuel listed a w := by
  intro fuel
  induction fuel with
  | zero =>
    intro listed a w hs hc hΦ
    have hall := count_zero_all (Nat.le_zero.1 hc)
    have hall' : ∀ i, i < ops.size → listed.getD i false = true := fun i hi => by
      have := hall i (by simp; omega)
      simp at this
      simp [this]
    refine ⟨?_, fin _ _ _ hall' hΦ⟩
    refine List.eq_nil_iff_forall_not_mem.2 fun i hm => ?_
    obtain ⟨h1, o, ho, _⟩ := mem_ready.1 hm
    have hlt : i < ops.size := (Array.getElem?_eq_some_iff.1 ho).1
    have h2 := hall' i hlt
    have : i < listed.size := by omega
    simp [this] at h1 h2
    rw [h1] at h2; cases h2
  | succ fuel ih =>
    intro listed a w hs hc hΦ
    refine ⟨fun h0 => fin _ _ _ (fun i hi => ready_none hl hs h0 (i + 1) i (by omega) hi) hΦ, fun i hi => ?_⟩
    obtain ⟨h1, o, ho, hall⟩ := mem_ready.1 hi
    have hlt : i < listed.size := by have := (Array.getElem?_eq_some_iff.1 ho).1; omega
    refine wpOp_mono (fun a' w' h => ih (listed.setIfInBounds i true) a' w' (by simpa using hs) ?_ (by rw [set_L hlt]; exact h)) (step i o _ a w ho (by simp [hlt] at h1 ⊢; exact h1) hall hΦ)
    have := count_set h1
    omega

set_option maxRecDepth 100000 in
theorem region_inv {id : Nat} {a : Act} {w : World} (hm : P.follows .mixedOrders = true) (hl : lowOnly ops = true) (Φ : (Nat → Bool) → Act → World → Prop) (h0 : Φ (fun _ => false) a w.drew)
    (step : ∀ i o L a w, ops[i]? = some o → L i = false → (∀ e ∈ o.after, Region.binds .any e = true → L e.on = true) → Φ L a w → wpOp P ops Q i (Φ (fun j => if j = i then true else L j)) a w)
    (fin : ∀ L a w, (∀ i, i < ops.size → L i = true) → Φ L a w → Q .normal a w) : (Code.region id ops true).wp P Q a w := by
  refine wp_region_any hm (wpAny_inv hl Φ step fin _ _ _ _ (by simp) ?_ ?_)
  · simp
  · have e : (fun j => (Array.replicate ops.size false).getD j false) = fun _ => false := by
      funext j
      by_cases h : j < ops.size <;> simp [h]
    rw [e]
    exact h0

/-- What has come up has come up behind what it waits for. -/
def Clo (ops : Array Oper) (L : Nat → Bool) : Prop := ∀ i o, ops[i]? = some o → L i = true → ∀ e ∈ o.after, Region.binds .any e = true → L e.on = true

set_option maxRecDepth 100000 in
/-- The same, and the steps know that what has come up has come up behind what it waits for. -/
theorem region_clo {id : Nat} {a : Act} {w : World} (hm : P.follows .mixedOrders = true) (hl : lowOnly ops = true) (Φ : (Nat → Bool) → Act → World → Prop) (h0 : Φ (fun _ => false) a w.drew)
    (step : ∀ i o L a w, ops[i]? = some o → L i = false → Clo ops L → (∀ e ∈ o.after, Region.binds .any e = true → L e.on = true) → Φ L a w → wpOp P ops Q i (Φ (fun j => if j = i then true else L j)) a w)
    (fin : ∀ L a w, (∀ i, i < ops.size → L i = true) → Φ L a w → Q .normal a w) : (Code.region id ops true).wp P Q a w := by
  refine region_inv hm hl (fun L a w => Clo ops L ∧ Φ L a w) ⟨fun _ _ _ h => (by cases h), h0⟩ ?_ (fun L a w hall h => fin L a w hall h.2)
  intro i o L a w ho hi hall h
  refine wpOp_mono (fun a' w' h' => ⟨?_, h'⟩) (step i o L a w ho hi h.1 hall h.2)
  intro j o' ho' hj e he hb
  by_cases hji : j = i
  · subst hji
    rw [ho] at ho'
    injection ho' with e'
    subst e'
    simp [hall e he hb]
  · have := h.1 j o' ho' (by simpa [hji] using hj) e he hb
    simp [this]

/-- Operation i of these is that one, without a guard, and waits for those. -/
def At (ops : Array Oper) (i : Nat) (dst : Option Tmp) (op : Op) (t : TypeId) (js : List Nat) : Prop :=
  ∃ o, ops[i]? = some o ∧ o.dst = dst ∧ o.op = op ∧ o.type = t ∧ o.guard = none ∧ (js.all fun j => o.after.any fun e => Region.binds .any e && e.on == j) = true

set_option maxRecDepth 100000 in
theorem At.needs {i : Nat} {dst : Option Tmp} {op : Op} {t : TypeId} {js : List Nat} (h : At ops i dst op t js) {o : Oper} (ho : ops[i]? = some o) {L : Nat → Bool} (hall : ∀ e ∈ o.after, Region.binds .any e = true → L e.on = true) : ∀ j ∈ js, L j = true := by
  obtain ⟨o', ho', _, _, _, _, hj⟩ := h
  rw [ho] at ho'
  injection ho' with e
  subst e
  intro j hjs
  have h1 := List.all_eq_true.1 hj j hjs
  rw [Array.any_eq_true'] at h1
  obtain ⟨e, he, h2⟩ := h1
  simp only [Bool.and_eq_true, beq_iff_eq] at h2
  rw [← h2.2]
  exact hall e he h2.1

set_option maxRecDepth 100000 in
theorem At.clo {i : Nat} {dst : Option Tmp} {op : Op} {t : TypeId} {js : List Nat} (h : At ops i dst op t js) {L : Nat → Bool} (hc : Clo ops L) (hi : L i = true) : ∀ j ∈ js, L j = true := by
  obtain ⟨o, ho, _⟩ := id h
  exact h.needs ho (hc i o ho hi)
set_option maxRecDepth 100000 in
theorem At.not {i : Nat} {dst : Option Tmp} {op : Op} {t : TypeId} {js : List Nat} (h : At ops i dst op t js) {L : Nat → Bool} (hc : Clo ops L) {j : Nat} (hj : j ∈ js) (hn : L j = false) : L i = false := by
  cases hv : L i with
  | false => rfl
  | true => have := h.clo hc hv j hj; rw [hn] at this; cases this

set_option maxRecDepth 100000 in
theorem At.run {i : Nat} {dst : Option Tmp} {op : Op} {t : TypeId} {js : List Nat} (h : At ops i dst op t js) {K : Act → World → Prop} {a : Act} {w : World}
    (hr : ∀ pos after, ({ dst := dst, op := op, type := t, pos := pos, after := after, guard := none } : Oper).wp P a w K Q) : wpOp P ops Q i K a w := by
  obtain ⟨o, ho, h1, h2, h3, h4, _⟩ := h
  unfold wpOp
  rw [ho]
  dsimp only
  rw [if_pos (by unfold Region.wanted; rw [h4])]
  left
  subst h1; subst h2; subst h3
  have := hr o.pos o.after
  rw [← h4] at this
  exact this

/-- What one frame has in common with another: all but these slots. -/
structure Agree (ds : List Nat) (a0 a : Act) : Prop where
  defers : a.defers = a0.defers
  size : a.tmps.size = a0.tmps.size
  out : ∀ t, t ∉ ds → a.tmps[t]? = a0.tmps[t]?

set_option maxRecDepth 100000 in
theorem Agree.refl (ds : List Nat) (a : Act) : Agree ds a a := ⟨rfl, rfl, fun _ _ => rfl⟩
set_option maxRecDepth 100000 in
theorem Agree.put {ds : List Nat} {a0 a : Act} (h : Agree ds a0 a) {d : Nat} (hd : d ∈ ds) (v : Value) : Agree ds a0 (a.put (some d) v) :=
  ⟨h.defers, by simpa [Act.put] using h.size, fun t ht => by
    have hne : d ≠ t := fun e => ht (e ▸ hd)
    simp only [Act.put]
    rw [Array.getElem?_setIfInBounds_ne hne]
    exact h.out t ht⟩
set_option maxRecDepth 100000 in
theorem Agree.eval {ds : List Nat} {a0 a : Act} (h : Agree ds a0 a) {t : Nat} (ht : t ∉ ds) : a.eval (.tmp t) = a0.eval (.tmp t) := by
  simp only [Act.eval, Array.getD_eq_getD_getElem?, h.out t ht]
set_option maxRecDepth 100000 in
theorem eval_new {a : Act} {d : Nat} (hd : d < a.tmps.size) (v : Value) : (a.put (some d) v).eval (.tmp d) = v := by
  simp [Act.eval, Act.put, hd]
set_option maxRecDepth 100000 in
theorem eval_old {a : Act} {d t : Nat} (hne : d ≠ t) (v : Value) : (a.put (some d) v).eval (.tmp t) = a.eval (.tmp t) :=
  Act.eval_put (dst := some d) fun d' e h => hne (by injection e with e; injection h with h; rw [e, h])

/-- The frame laid anew. -/
def lay (σ : Nat → Value) (ds : List Nat) (a : Act) : Act := ds.foldl (fun a d => a.put (some d) (σ d)) a
set_option maxRecDepth 100000 in
theorem lay_defers (σ : Nat → Value) (ds : List Nat) (a : Act) : (lay σ ds a).defers = a.defers := by
  induction ds generalizing a with
  | nil => rfl
  | cons d ds ih => exact (ih _).trans rfl
set_option maxRecDepth 100000 in
theorem lay_size (σ : Nat → Value) (ds : List Nat) (a : Act) : (lay σ ds a).tmps.size = a.tmps.size := by
  induction ds generalizing a with
  | nil => rfl
  | cons d ds ih => exact (ih _).trans (by simp [Act.put])
set_option maxRecDepth 100000 in
theorem lay_out (σ : Nat → Value) (ds : List Nat) (a : Act) (t : Nat) (ht : t ∉ ds) : (lay σ ds a).tmps[t]? = a.tmps[t]? := by
  induction ds generalizing a with
  | nil => rfl
  | cons d ds ih =>
    refine (ih _ fun h => ht (List.mem_cons_of_mem _ h)).trans ?_
    have hne : d ≠ t := fun e => ht (e ▸ List.mem_cons_self ..)
    simp only [Act.put]
    rw [Array.getElem?_setIfInBounds_ne hne]
set_option maxRecDepth 100000 in
theorem lay_in (σ : Nat → Value) (ds : List Nat) (a : Act) (t : Nat) (ht : t ∈ ds) (hs : t < a.tmps.size) : (lay σ ds a).tmps[t]? = some (σ t) := by
  induction ds generalizing a with
  | nil => cases ht
  | cons d ds ih =>
    by_cases h : t ∈ ds
    · exact ih _ h (by simpa [Act.put] using hs)
    · have e : t = d := by simpa [h] using ht
      subst e
      refine (lay_out σ ds _ t h).trans ?_
      simp [Act.put, hs]
set_option maxRecDepth 100000 in
theorem Agree.lay {ds : List Nat} {a0 a : Act} (h : Agree ds a0 a) (hds : ∀ d ∈ ds, d < a0.tmps.size) : a = lay (fun d => a.eval (.tmp d)) ds a0 := by
  have ht : a.tmps = (Proofs.YtplejbgecihnpaaDoor.lay (fun d => a.eval (.tmp d)) ds a0).tmps := by
    refine Array.ext_getElem? fun t => ?_
    by_cases hm : t ∈ ds
    · have hlt : t < a.tmps.size := by rw [h.size]; exact hds t hm
      rw [lay_in _ _ _ _ hm (hds t hm)]
      simp [Act.eval, hlt]
    · rw [lay_out _ _ _ _ hm, h.out t hm]
  have hd := (lay_defers (fun d => a.eval (.tmp d)) ds a0)
  cases a with
  | mk tm df =>
    cases hl : Proofs.YtplejbgecihnpaaDoor.lay (fun d => ({ tmps := tm, defers := df } : Act).eval (.tmp d)) ds a0 with
    | mk tm' df' =>
      rw [hl] at ht hd
      have := h.defers
      simp only at ht hd this
      rw [ht, hd, this]

end

end Go.Proofs.YtplejbgecihnpaaDoor
