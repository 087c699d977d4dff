/-
  The walks of what is done to a box (package cloud): start, stop, join, leave, end. Conditions: those that each theorem names.
-/
import Derived.Test.YtphkleecodoplaaCdRight
namespace Go.Proofs.Ytphkleecodoplaa
open Go.RowKit Go.Shelf

/-- A cloud in its box, its boxes in a row of its own. -/
structure Clu (W : World) (base Cb : Nat) (A : Option Addr) (n c : Nat) (x : Cw) : Prop where
  box : Whole W Cb 24 #[.slice A n c, .int .i64 x.fl, .int .i64 x.dr, .int .i64 x.nw, .bool x.tg]
  row : W.ownsRow base 40 11 (.slice A n c) n (flat x.l)
  lt : Cb < base
  le : base ≤ W.heap.size
section
variable {W W' : World} {base Cb : Nat} {A : Option Addr} {n c : Nat} {x : Cw}
set_option maxRecDepth 100000 in
theorem Clu.under (h : Clu W base Cb A n c x) (hb : Below W.heap.size W W') : Clu W' base Cb A n c x := ⟨h.box.under hb, own_under h.row hb, h.lt, Nat.le_trans h.le hb.size⟩
set_option maxRecDepth 100000 in
theorem Clu.rd (h : Clu W base Cb A n c x) : RdX W W.heap.size A n x.l := RdX.of_own h.row
set_option maxRecDepth 100000 in
theorem Clu.len (h : Clu W base Cb A n c x) : x.l.length = n := h.rd.len
set_option maxRecDepth 100000 in
theorem Clu.form (h : Clu W base Cb A n c x) {j : Nat} {y : Bx} (hx : x.l[j]? = some y) : ∃ g, A = some ⟨g, 0, none⟩ ∧ base ≤ g ∧ n ≤ c := by
  have hn : 0 < n := by have h1 := (List.getElem?_eq_some_iff.1 hx).1; have := h.len; omega
  obtain ⟨g, cap, hv, hb, hlt⟩ := h.row.form hn
  injection hv with hA _ hc
  rcases h.row.2 with ⟨h1, h2⟩ | ⟨g', cap', cur, h1, h3, _, h4, _⟩
  · omega
  · injection h1 with e1 _ e2
    exact ⟨g', e1, h3, by omega⟩
end
section
variable {W W' : World} {base Cb g : Nat} {n c : Nat} {x : Cw}
set_option maxRecDepth 100000 in
/-- A cell of a box laid anew. -/
theorem Clu.set (h : Clu W base Cb (some ⟨g, 0, none⟩) n c x) {j : Nat} {y : Bx} (hx : x.l[j]? = some y) {i : Nat} (hi : i < 11) {u : Value} {y' : Bx} (hy : y'.vs = y.vs.set i u) :
    Clu (W.setCell ⟨g, j * 11 + i, none⟩ u) base Cb (some ⟨g, 0, none⟩) n c { x with l := x.l.set j y' } ∧ W.grownBy (W.setCell ⟨g, j * 11 + i, none⟩ u) (some g) := by
  obtain ⟨g', e, hb, _⟩ := h.form hx
  injection e with e
  injection e with e _ _
  subst e
  have hs := h.row.stored (j * 11 + i) u
  rw [flat_set hx hi hy] at hs
  have hne : Cb ≠ g := by have := h.lt; omega
  exact ⟨⟨h.box.far (p := ⟨g, j * 11 + i, none⟩) hne u, hs.1, h.lt, Nat.le_trans h.le ((Below.refl base W).setCell (p := ⟨g, j * 11 + i, none⟩) hb u).size⟩, hs.2⟩
set_option maxRecDepth 100000 in
theorem Clu.at_ (h : Clu W base Cb (some ⟨g, 0, none⟩) n c x) {j : Nat} {y : Bx} (hx : x.l[j]? = some y) : BxAt W g (j * 11) y := by
  have hj : j < x.l.length := (List.getElem?_eq_some_iff.1 hx).1
  have hl := h.len
  exact bxAt_of fun i hi => by rw [h.row.cellAt (j * 11 + i) (by omega)]; exact flat_at hx hi
set_option maxRecDepth 100000 in
theorem Clu.frz (h : Clu W base Cb (some ⟨g, 0, none⟩) n c x) (k : Nat) : W.frozen? ⟨g, k, none⟩ = false := h.row.frozenAt k
end

set_option maxRecDepth 100000 in
theorem grown_t {A B C : World} {row : Option Nat} (h : A.grownBy B row) (k : B.grownBy C row) : A.grownBy C row :=
  ⟨k.os.trans h.os, k.tape.trans h.tape, k.output.trans h.output, Nat.le_trans h.size k.size, fun i hi hne => (k.block i (Nat.lt_of_lt_of_le hi h.size) hne).trans (h.block i hi hne)⟩
set_option maxRecDepth 100000 in
theorem below_grown {W W' : World} (hb : Below W.heap.size W W') (row : Option Nat) : W.grownBy W' row := ⟨hb.os, hb.tape, hb.output, hb.size, fun i hi _ => hb.block i hi⟩
set_option maxRecDepth 100000 in
theorem grown_under {A B C : World} {row : Option Nat} (h : A.grownBy B row) (k : Below B.heap.size B C) : A.grownBy C row := grown_t h (below_grown k row)

/-- What is told, and the box then. -/
def TouchPost (base Cb g n c : Nat) (x : Cw) (j : Nat) (code : Int) (y' : Bx) (W : World) (e : Ending) (W' : World) : Prop :=
  e = .returned (.int .u8 code) ∧ Clu W' base Cb (some ⟨g, 0, none⟩) n c { x with l := x.l.set j y' } ∧ W.grownBy W' (some g)

set_option maxRecDepth 100000 in
theorem set_same {l : List Bx} {j : Nat} {y : Bx} (h : l[j]? = some y) : l.set j y = l := by
  apply List.ext_getElem?
  intro i
  rw [List.getElem?_set]
  split
  · rename_i e
    subst e
    have := (List.getElem?_eq_some_iff.1 h).1
    rw [if_pos this, h]
  · rfl
set_option maxRecDepth 100000 in
theorem set_at {l : List Bx} {j : Nat} {y z : Bx} (h : l[j]? = some y) : (l.set j z)[j]? = some z := by
  have := (List.getElem?_eq_some_iff.1 h).1
  rw [List.getElem?_set_self this]
set_option maxRecDepth 100000 in
theorem set_set (l : List Bx) (j : Nat) (y z : Bx) : (l.set j y).set j z = l.set j z := List.set_set ..

section
variable {base Cb g n c o j : Nat} {x : Cw} {y : Bx} {W : World}

set_option maxRecDepth 100000 in
set_option maxHeartbeats 1000000 in
theorem start_any (h : Clu W base Cb (some ⟨g, 0, none⟩) n c x) (hx : x.l[j]? = some y) (ho : j * 11 = o) :
    Calls Try.prog 37 #[.pointer (some ⟨Cb, 0, none⟩), .pointer (some ⟨g, o, none⟩)] W (TouchPost base Cb g n c x j 1 (touched x.nw x.dr 2 y) W) := by
  obtain ⟨b0, b1, b2, b3, b4, b5, b6, b7, b8, b9, b10⟩ := h.at_ hx
  have f5 := h.frz (j * 11 + 5)
  rw [ho] at b0 b1 b2 b3 b4 b5 b6 b7 b8 b9 b10 f5
  have HT : Hid (touched x.nw x.dr 2 y = { y with on := true }) := Lib.hid (by simp [touched])
  have H1 := Lib.hid (h.set hx (i := 5) (by omega) (u := .bool true) (y' := { y with on := true }) rfl)
  rw [ho] at H1
  rw [HT.out]
  clear HT h hx ho
  go_enter Try.func37, Try.ntmps37
  go_wp2_with fail
  go_ret
  exact ⟨rfl, H1.out⟩

set_option maxRecDepth 100000 in
set_option maxHeartbeats 1000000 in
theorem stop_any (h : Clu W base Cb (some ⟨g, 0, none⟩) n c x) (hx : x.l[j]? = some y) (ho : j * 11 = o) :
    Calls Try.prog 39 #[.pointer (some ⟨Cb, 0, none⟩), .pointer (some ⟨g, o, none⟩)] W (TouchPost base Cb g n c x j 1 (touched x.nw x.dr 3 y) W) := by
  obtain ⟨b0, b1, b2, b3, b4, b5, b6, b7, b8, b9, b10⟩ := h.at_ hx
  have f5 := h.frz (j * 11 + 5)
  have f8 := h.frz (j * 11 + 8)
  rw [ho] at b0 b1 b2 b3 b4 b5 b6 b7 b8 b9 b10 f5 f8
  have HT : Hid (touched x.nw x.dr 3 y = { y with on := false, lb := 0 }) := Lib.hid (by simp [touched])
  have h1 := h.set hx (i := 5) (by omega) (u := .bool false) (y' := { y with on := false }) rfl
  have h2 := h1.1.set (j := j) (y := { y with on := false }) (set_at hx) (i := 8) (by omega) (u := .int .u8 0) (y' := { y with on := false, lb := 0 }) rfl
  rw [set_set] at h2
  rw [ho] at h1 h2
  have H2 := Lib.hid (And.intro h2.1 (grown_t h1.2 h2.2))
  rw [HT.out]
  clear HT h hx ho h1 h2
  go_enter Try.func39, Try.ntmps39
  go_wp2_with fail
  go_ret
  exact ⟨rfl, H2.out⟩

set_option maxRecDepth 100000 in
set_option maxHeartbeats 1000000 in
theorem end_any (h : Clu W base Cb (some ⟨g, 0, none⟩) n c x) (hx : x.l[j]? = some y) (ho : j * 11 = o) :
    Calls Try.prog 42 #[.pointer (some ⟨Cb, 0, none⟩), .pointer (some ⟨g, o, none⟩)] W (TouchPost base Cb g n c x j 1 (touched x.nw x.dr 6 y) W) := by
  obtain ⟨b0, b1, b2, b3, b4, b5, b6, b7, b8, b9, b10⟩ := h.at_ hx
  have f5 := h.frz (j * 11 + 5)
  have f6 := h.frz (j * 11 + 6)
  have f8 := h.frz (j * 11 + 8)
  rw [ho] at b0 b1 b2 b3 b4 b5 b6 b7 b8 b9 b10 f5 f6 f8
  have HT : Hid (touched x.nw x.dr 6 y = { y with gone := true, on := false, lb := 0 }) := Lib.hid (by simp [touched])
  have h0 := h.set hx (i := 6) (by omega) (u := .bool true) (y' := { y with gone := true }) rfl
  have h1 := h0.1.set (j := j) (y := { y with gone := true }) (set_at hx) (i := 5) (by omega) (u := .bool false) (y' := { y with gone := true, on := false }) rfl
  rw [set_set] at h1
  have h2 := h1.1.set (j := j) (y := { y with gone := true, on := false }) (set_at hx) (i := 8) (by omega) (u := .int .u8 0) (y' := { y with gone := true, on := false, lb := 0 }) rfl
  rw [set_set] at h2
  rw [ho] at h0 h1 h2
  have H2 := Lib.hid (And.intro h2.1 (grown_t (grown_t h0.2 h1.2) h2.2))
  rw [HT.out]
  clear HT h hx ho h0 h1 h2
  go_enter Try.func42, Try.ntmps42
  go_wp2_with fail
  go_ret
  exact ⟨rfl, H2.out⟩

set_option maxRecDepth 100000 in
set_option maxHeartbeats 1000000 in
theorem join_any (h : Clu W base Cb (some ⟨g, 0, none⟩) n c x) (hx : x.l[j]? = some y) (ho : j * 11 = o) :
    Calls Try.prog 40 #[.pointer (some ⟨Cb, 0, none⟩), .pointer (some ⟨g, o, none⟩)] W (TouchPost base Cb g n c x j (if y.on = true then 1 else 2) (if y.on = true then touched x.nw x.dr 4 y else y) W) := by
  obtain ⟨b0, b1, b2, b3, b4, b5, b6, b7, b8, b9, b10⟩ := h.at_ hx
  have f8 := h.frz (j * 11 + 8)
  rw [ho] at b0 b1 b2 b3 b4 b5 b6 b7 b8 b9 b10 f8
  cases hon : y.on with
  | true =>
    have HT : Hid (touched x.nw x.dr 4 y = { y with lb := 1 }) := Lib.hid (by simp [touched])
    have H1 := Lib.hid (h.set hx (i := 8) (by omega) (u := .int .u8 1) (y' := { y with lb := 1 }) rfl)
    rw [ho] at H1
    simp only [if_true]
    rw [HT.out]
    rw [hon] at b5
    clear HT h hx ho hon
    go_enter Try.func40, Try.ntmps40
    go_wp2_with fail
    go_ret
    exact ⟨rfl, H1.out⟩
  | false =>
    have H1 : Hid (Clu W base Cb (some ⟨g, 0, none⟩) n c { x with l := x.l.set j y }) := Lib.hid (by rw [set_same hx]; exact h)
    simp only [Bool.false_eq_true, if_false]
    rw [hon] at b5
    clear h hx ho hon
    go_enter Try.func40, Try.ntmps40
    go_wp2_with fail
    go_ret
    exact ⟨rfl, H1.out, World.grownBy.refl _ _⟩

set_option maxRecDepth 100000 in
set_option maxHeartbeats 1000000 in
theorem leave_any (h : Clu W base Cb (some ⟨g, 0, none⟩) n c x) (hx : x.l[j]? = some y) (ho : j * 11 = o) (hd : isNum x.dr = true) (hn : isNum x.nw = true) :
    Calls Try.prog 41 #[.pointer (some ⟨Cb, 0, none⟩), .pointer (some ⟨g, o, none⟩)] W (TouchPost base Cb g n c x j 1 (touched x.nw x.dr 5 y) W) := by
  obtain ⟨b0, b1, b2, b3, b4, b5, b6, b7, b8, b9, b10⟩ := h.at_ hx
  rw [ho] at b0 b1 b2 b3 b4 b5 b6 b7 b8 b9 b10
  by_cases hl : y.lb = 1
  · have HT : Hid (touched x.nw x.dr 5 y = { y with lb := 2, unt := x.nw + x.dr }) := Lib.hid (by simp [touched, hl])
    have hb : (y.lb == 1) = true := by simp [hl]
    have h1 := h.set hx (i := 8) (by omega) (u := .int .u8 2) (y' := { y with lb := 2 }) rfl
    have h2 := h1.1.set (j := j) (y := { y with lb := 2 }) (set_at hx) (i := 9) (by omega) (u := .int .i64 (x.nw + x.dr)) (y' := { y with lb := 2, unt := x.nw + x.dr }) rfl
    rw [set_set] at h2
    have f8 := h.frz (j * 11 + 8)
    have f9 := h.frz (j * 11 + 9)
    rw [ho] at h1 h2 f8 f9
    have H2 := Lib.hid (And.intro h2.1 (grown_t h1.2 h2.2))
    have d2 := h.box.cell 2
    have d3 := h.box.cell 3
    simp only [List.getElem?_toArray, List.getElem?_cons_zero, List.getElem?_cons_succ] at d2 d3
    have hd' := isNum_iff.1 hd
    have hn' := isNum_iff.1 hn
    rw [HT.out]
    clear HT h hx ho h1 h2 hl hd hn b0 b1 b2 b3 b4 b5 b6 b7 b10
    go_enter Try.func41, Try.ntmps41
    go_wp2_with fail
    go_region
    go_wp2_with fail
    go_ret
    exact ⟨rfl, ⟨H2.out.1.box, H2.out.1.row, H2.out.1.lt, H2.out.1.le⟩, grown_under H2.out.2 (Below.refl _ _).drew⟩
  · have HT : Hid (touched x.nw x.dr 5 y = y) := Lib.hid (by simp [touched, hl])
    have hb : (y.lb == 1) = false := by simp [hl]
    have H1 : Hid (Clu W base Cb (some ⟨g, 0, none⟩) n c { x with l := x.l.set j y }) := Lib.hid (by rw [set_same hx]; exact h)
    rw [HT.out]
    clear HT h hx ho hl
    go_enter Try.func41, Try.ntmps41
    go_wp2_with fail
    go_ret
    exact ⟨rfl, H1.out, World.grownBy.refl _ _⟩
end

end Go.Proofs.Ytphkleecodoplaa
