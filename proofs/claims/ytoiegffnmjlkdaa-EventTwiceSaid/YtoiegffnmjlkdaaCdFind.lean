/-
  The walks of 'Find' and 'missing' of package cloud, and of the predicates that 'place' is handed. Conditions: those that each theorem names.
-/
import Derived.Test.YtoiegffnmjlkdaaCdPlace
namespace Go.Proofs.Ytoiegffnmjlkdaa
open Go.RowKit Go.Shelf

set_option maxRecDepth 100000 in
theorem cell_up {W : World} {b i : Nat} {v : Value} (h : W.cell? ⟨b, i, none⟩ = some v) (o : Obj) : (W.alloc o).cell? ⟨b, i, none⟩ = some v :=
  (((Below.refl _ W).alloc (Nat.le_refl _) o).cell (p := ⟨b, i, none⟩) (World.block_lt_of_cell? W _ h)).trans h
set_option maxRecDepth 100000 in
theorem cell_below {W W' : World} {b i : Nat} {v : Value} (h : W.cell? ⟨b, i, none⟩ = some v) (hb : Below W.heap.size W W') : W'.cell? ⟨b, i, none⟩ = some v :=
  (hb.cell (p := ⟨b, i, none⟩) (World.block_lt_of_cell? W _ h)).trans h

set_option maxRecDepth 100000 in
set_option maxHeartbeats 1000000 in
theorem find1_any (id : Int) (P : Nat) (y : Bx) (W : World) (hP : W.cell? ⟨P, 0, none⟩ = some (.int .i64 id)) :
    Calls Try.prog 45 (#[.agg #[.int .i64 y.id, .int .i64 y.tok, .int .i64 y.ver, .int .i64 y.zone, .bool y.tag, .bool y.on, .bool y.gone, .bool y.well, .int .u8 y.lb, .int .i64 y.unt, .int .i64 y.fen]] ++ #[.pointer (some ⟨P, 0, none⟩)]) W (BoolPost (findB id y) W) := by
  have hP1 := cell_up hP (.cells #[.int .i64 y.id, .int .i64 y.tok, .int .i64 y.ver, .int .i64 y.zone, .bool y.tag, .bool y.on, .bool y.gone, .bool y.well, .int .u8 y.lb, .int .i64 y.unt, .int .i64 y.fen] 36)
  have HB := Lib.hid ((Below.refl _ W).alloc (Nat.le_refl _) (.cells #[.int .i64 y.id, .int .i64 y.tok, .int .i64 y.ver, .int .i64 y.zone, .bool y.tag, .bool y.on, .bool y.gone, .bool y.well, .int .u8 y.lb, .int .i64 y.unt, .int .i64 y.fen] 36))
  have HF : Hid (findB id y = ((y.id == id) && !y.gone)) := Lib.hid rfl
  rw [HF.out]
  clear hP HF
  obtain ⟨yid, ytok, yver, yzone, ytag, yon, ygone, ywell, ylb, yunt, yfen⟩ := y
  simp only [List.append_toArray, List.nil_append, List.cons_append] at *
  by_cases hi : yid = id
  · have hb : (yid == id) = true := by simp [hi]
    rw [hb]
    clear hi
    cases ygone
    all_goals
      go_enter Try.func45, Try.ntmps45
      go_wp2_with fail
      go_ret
      exact ⟨rfl, HB.out⟩
  · have hb : (yid == id) = false := by simp [hi]
    rw [hb]
    clear hi
    go_enter Try.func45, Try.ntmps45
    go_wp2_with fail
    go_ret
    exact ⟨rfl, HB.out⟩

set_option maxRecDepth 100000 in
set_option maxHeartbeats 1000000 in
theorem find_any (A : Option Addr) (n c : Nat) (x : Cw) (id : Int) (B : Nat) (w : World) (hr : RdX w B A n x.l) (hB : B ≤ w.heap.size) (hn : n ≤ 1000) :
    Calls Try.prog 40 #[.agg #[.slice A n c, .int .i64 x.fl, .int .i64 x.dr, .int .i64 x.nw, .bool x.tg], .int .i64 id] w (PlacePost (find x.l id) w) := by
  have hb : Below w.heap.size w ((w.alloc (.cells #[.slice A n c, .int .i64 x.fl, .int .i64 x.dr, .int .i64 x.nw, .bool x.tg] 24)).alloc (.cells #[.int .i64 id] 3)) := ((Below.refl _ w).alloc (Nat.le_refl _) _).alloc (by simp) _
  have hc : ((w.alloc (.cells #[.slice A n c, .int .i64 x.fl, .int .i64 x.dr, .int .i64 x.nw, .bool x.tg] 24)).alloc (.cells #[.int .i64 id] 3)).cell? ⟨w.heap.size + 1, 0, none⟩ = some (.int .i64 id) := by
    have := (Whole.new (w.alloc (.cells #[.slice A n c, .int .i64 x.fl, .int .i64 x.dr, .int .i64 x.nw, .bool x.tg] 24)) 3 #[.int .i64 id]).cell 0
    rwa [World.size_alloc] at this
  have HP := Lib.hid (place_any A n c x B _ (hr.below (hb.mono hB)) (Nat.le_trans hB hb.size) hn 45 #[.pointer (some ⟨w.heap.size + 1, 0, none⟩)] (findB id) (enters_of Try.func45 (by kernel_rfl) rfl) (fun y W hW => find1_any id _ y W (cell_below hc hW)))
  have HB := Lib.hid hb
  clear hr hB hb hc
  go_enter Try.func40, Try.ntmps40
  go_wp2_with fail
  refine (HP.out).mono ?_
  rintro e w1 ⟨rfl, b1⟩
  go_wp2_with fail
  go_ret
  exact ⟨rfl, HB.out.trans (b1.mono HB.out.size)⟩

/-- What is asked, as values. -/
def akC (q : Ak) : Array Value := #[.int .u8 q.kind, .int .i64 q.call, .int .i64 q.a, .int .i64 q.b, .int .i64 q.c, .int .i64 q.d]

def U8Post (v : Int) (w : World) (e : Ending) (w' : World) : Prop := e = .returned (.int .u8 v) ∧ Below w.heap.size w w'
def missK (x : Cw) (q : Ak) : Int := if q.kind = 6 ∧ (x.l.any fun y => y.id == q.a) then 1 else 2

end Go.Proofs.Ytoiegffnmjlkdaa
