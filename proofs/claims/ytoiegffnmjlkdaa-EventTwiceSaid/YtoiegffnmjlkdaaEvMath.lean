/-
  What happens to a cloud, as plain data: which clouds may be behind it, who is counted, what stays. Conditions: those that each theorem names.
-/
import Derived.Test.YtoiegffnmjlkdaaPgGone
namespace Go.Proofs.Ytoiegffnmjlkdaa
open Go.RowKit Go.Shelf

/-- What happens: a kind, two numbers. -/
structure Ev where
  kind : Int
  a : Int
  b : Int

def flipB (y : Bx) : Bx := { y with well := !y.well }
/-- The box that nobody launched. -/
def strayB (id ver : Int) (tag : Bool) : Bx := { id := id, tok := 0, ver := ver, zone := 0, tag := tag, on := true, gone := false, well := true, lb := 0, unt := 0, fen := 0 }
/-- What a tick does to a box: the time then. -/
def ripe (nw : Int) (y : Bx) : Bool := (y.lb == 2) && decide (y.unt ≤ nw)
def tickB (nw : Int) (y : Bx) : Bx := if ripe nw y = true then { y with lb := 0 } else y
/-- f done to the box of that id, if it is found. -/
def atB (l : List Bx) (id : Int) (f : Bx → Bx) : List Bx :=
  match find l id with
  | none => l
  | some j => match l[j]? with
    | none => l
    | some y => l.set j (f y)
def strayC (x : Cw) (ver : Int) (tag : Bool) : Cw :=
  if decide (x.l.length < 60) && isNum ver then { x with l := x.l ++ [strayB ((x.l.length : Int) + 1) ver tag] } else x
def tickC (x : Cw) : Cw := if 1099511627776 ≤ x.nw then x else { x with nw := x.nw + 1, l := x.l.map (tickB (x.nw + 1)) }
def floorC (x : Cw) (fl dr : Int) : Cw := if isNum fl && isNum dr then { x with fl := fl, dr := dr } else x
/-- A cloud that may be, behind what happens. -/
def evK (x : Cw) (e : Ev) : Cw :=
  if e.kind = 1 then { x with l := atB x.l e.a goneB }
  else if e.kind = 2 then { x with l := atB x.l e.a flipB }
  else if e.kind = 3 then strayC x e.a (e.b != 0)
  else if e.kind = 4 then { x with tg := !x.tg }
  else if e.kind = 5 then tickC x
  else if e.kind = 6 then floorC x e.a e.b
  else x
/-- A cloud behind what happens, and behind all of it. -/
def evC (x : Cw) (e : Ev) : Cw := if right x = true then evK x e else x
def evsC (x : Cw) (l : List Ev) : Cw := l.foldl evC x
def fallsB (e : Ev) : Bool := (e.kind == 1) || (e.kind == 2)

theorem flipB_sound {y : Bx} (h : sound y = true) : sound (flipB y) = true := h
theorem flip_flip (y : Bx) : flipB (flipB y) = y := by simp [flipB]
theorem gone_gone (y : Bx) : goneB (goneB y) = goneB y := rfl
theorem tickB_id (nw : Int) (y : Bx) : (tickB nw y).id = y.id := by unfold tickB; split <;> rfl
theorem tickB_tok (nw : Int) (y : Bx) : (tickB nw y).tok = y.tok := by unfold tickB; split <;> rfl
theorem tickB_sound {nw : Int} {y : Bx} (h : sound y = true) : sound (tickB nw y) = true := by
  unfold tickB
  split
  · simp only [sound, Bool.and_eq_true] at h ⊢
    exact ⟨⟨⟨⟨⟨h.1.1.1.1.1, h.1.1.1.1.2⟩, h.1.1.1.2⟩, by simp⟩, by simp⟩, h.2⟩
  · exact h

/-- What can be of a box that is asked for by its id. -/
theorem atB_cases (l : List Bx) (id : Int) (f : Bx → Bx) : (find l id = none ∧ atB l id f = l) ∨ ∃ j y, find l id = some j ∧ l[j]? = some y ∧ y.id = id ∧ y.gone = false ∧ atB l id f = l.set j (f y) := by
  unfold atB
  cases hf : find l id with
  | none => exact .inl ⟨rfl, rfl⟩
  | some j =>
    obtain ⟨y, hy, hp, _⟩ := firstAt_some hf
    obtain ⟨g1, g2⟩ := find_gone hf hy
    exact .inr ⟨j, y, rfl, hy, g1, g2, by simp only [hy]⟩

theorem right_tick {x : Cw} (h : right x = true) : right (tickC x) = true := by
  unfold tickC
  split
  · exact h
  · rename_i hn
    have h1 := right_nums h
    have h2 : isNum (x.nw + 1) = true := by
      have := isNum_iff.1 h1.2.2
      exact isNum_iff.2 (by omega)
    have h3 : right { x with l := x.l.map (tickB (x.nw + 1)) } = true := by
      refine right_of h (by rw [List.length_map]; exact right_few h) fun i u hu => ?_
      rw [List.getElem?_map] at hu
      cases hy : x.l[i]? with
      | none => rw [hy] at hu; cases hu
      | some y =>
        rw [hy] at hu
        obtain rfl := Option.some.inj hu
        have h4 := right_at h hy
        have hd : dup ((x.l.map (tickB (x.nw + 1))).take i) (tickB (x.nw + 1) y) = dup (x.l.take i) y := by
          rw [dup_map, dup_map, ← List.map_take, List.map_map, tickB_tok]
          congr 2
          refine List.map_congr_left fun z _ => tickB_tok _ _
        simp only [okAt, Bool.and_eq_true, hd, tickB_id] at h4 ⊢
        exact ⟨⟨h4.1.1, tickB_sound h4.1.2⟩, h4.2⟩
    exact right_with h3 h1.1 h2 x.tg
theorem strayB_sound (id : Int) {ver : Int} (h : isNum ver = true) (tag : Bool) : sound (strayB id ver tag) = true := by
  have h0 : isNum 0 = true := rfl
  simp [sound, strayB, h, h0]
theorem right_stray {x : Cw} (h : right x = true) (ver : Int) (tag : Bool) : right (strayC x ver tag) = true := by
  unfold strayC
  split
  · rename_i hc
    simp only [Bool.and_eq_true, decide_eq_true_eq] at hc
    refine right_of h (by rw [List.length_append, List.length_singleton]; omega) fun i z hz => ?_
    rcases Nat.lt_or_ge i x.l.length with hi | hi
    · rw [List.getElem?_append_left hi] at hz
      have := right_at h hz
      unfold okAt at this ⊢
      rwa [List.take_append_of_le_length (by omega)]
    · rw [List.getElem?_append_right hi] at hz
      have h0 : i - x.l.length = 0 := by
        have := (List.getElem?_eq_some_iff.1 hz).1
        rw [List.length_singleton] at this
        omega
      rw [h0] at hz
      have hz := Option.some.inj hz
      subst hz
      have hi2 : i = x.l.length := by omega
      subst hi2
      simp only [okAt, Bool.and_eq_true, beq_iff_eq, Bool.not_eq_true', List.take_left]
      exact ⟨⟨rfl, strayB_sound _ hc.2 _⟩, by simp [dup, strayB]⟩
  · exact h
theorem right_floor {x : Cw} (h : right x = true) (fl dr : Int) : right (floorC x fl dr) = true := by
  unfold floorC
  split
  · rename_i hc
    simp only [Bool.and_eq_true] at hc
    simp only [right, Bool.and_eq_true] at h ⊢
    exact ⟨⟨h.1.1, ⟨hc.1, hc.2⟩, h.1.2.2⟩, h.2⟩
  · exact h
theorem right_atB {x : Cw} (h : right x = true) (id : Int) (f : Bx → Bx) (h1 : ∀ y, (f y).id = y.id) (h2 : ∀ y, (f y).tok = y.tok) (h3 : ∀ y, sound y = true → sound (f y) = true) : right { x with l := atB x.l id f } = true := by
  rcases atB_cases x.l id f with ⟨_, e⟩ | ⟨j, y, _, hy, _, _, e⟩
  · rw [e]; exact h
  · rw [e]; exact right_set h hy (h1 y) (h2 y) (h3 y (right_sound h hy))
/-- A cloud that may be may be behind whatever happens. -/
theorem right_ev {x : Cw} (h : right x = true) (e : Ev) : right (evC x e) = true := by
  unfold evC evK
  rw [if_pos h]
  split
  · exact right_atB h _ _ (fun _ => rfl) (fun _ => rfl) fun _ hy => goneB_sound hy
  split
  · exact right_atB h _ _ (fun _ => rfl) (fun _ => rfl) fun _ hy => flipB_sound hy
  split
  · exact right_stray h _ _
  split
  · have h1 := right_nums h
    exact right_with h h1.1 h1.2.2 _
  split
  · exact right_tick h
  split
  · exact right_floor h _ _
  · exact h
theorem evC_out {x : Cw} (h : right x = false) (e : Ev) : evC x e = x := by unfold evC; rw [if_neg (by simp [h])]
theorem evC_in {x : Cw} (h : right x = true) (e : Ev) : evC x e = evK x e := by unfold evC; rw [if_pos h]
theorem evsC_out {x : Cw} (h : right x = false) (l : List Ev) : evsC x l = x := by
  unfold evsC
  induction l with
  | nil => rfl
  | cons e l ih => rw [List.foldl_cons, evC_out h, ih]
theorem right_evs {x : Cw} (h : right x = true) (l : List Ev) : right (evsC x l) = true := by
  unfold evsC
  induction l generalizing x with
  | nil => exact h
  | cons e l ih => rw [List.foldl_cons]; exact ih (right_ev h e)
theorem evsC_take {x : Cw} {l : List Ev} {k : Nat} {e : Ev} (h : l[k]? = some e) : evsC x (l.take (k + 1)) = evC (evsC x (l.take k)) e := by
  have hk : k < l.length := (List.getElem?_eq_some_iff.1 h).1
  rw [List.getElem?_eq_getElem hk] at h
  unfold evsC
  rw [List.take_succ_eq_append_getElem hk, Option.some.inj h, List.foldl_append]
  rfl

end Go.Proofs.Ytoiegffnmjlkdaa
