/-
  The walk of what 'toFound' hands back (package cloud). Conditions: those that each theorem names.
-/
import Derived.Test.YtphkleecodoplaaCdTaking
namespace Go.Proofs.Ytphkleecodoplaa
open Go.RowKit Go.Shelf

/-- What is done to the box that is found, and told. -/
def foundP (x : Cw) (q : Ak) (tc : Bx → Int) (ty : Bx → Bx) : List Bx × Int :=
  match find x.l q.a with
  | none => (x.l, missK x q)
  | some j => match x.l[j]? with
    | none => (x.l, 0)
    | some y => if q.call < y.fen then (x.l, 5) else if tc y = 1 then (x.l.set j { ty y with fen := q.call }, 1) else (x.l.set j (ty y), tc y)

def FoundPost (base Cb : Nat) (A : Option Addr) (n c : Nat) (x : Cw) (l : List Bx) (code id : Int) (W : World) (e : Ending) (W' : World) : Prop :=
  e = .returned (.tuple #[.int .u8 code, .int .i64 id]) ∧ Clu W' base Cb A n c { x with l := l } ∧ Below base W W'

/-- What is asked, in its box. -/
def AskIn (W : World) (E : Nat) (q : Ak) : Prop := Whole W E 26 #[.int .u8 q.kind, .int .i64 q.call, .int .i64 q.a, .int .i64 q.b, .int .i64 q.c, .int .i64 q.d]
set_option maxRecDepth 100000 in
theorem AskIn.under {W W' : World} {E : Nat} {q : Ak} (h : AskIn W E q) (hb : Below W.heap.size W W') : AskIn W' E q := Whole.under h hb
set_option maxRecDepth 100000 in
theorem AskIn.cells {W : World} {E : Nat} {q : Ak} (h : AskIn W E q) : W.cell? ⟨E, 0, none⟩ = some (.int .u8 q.kind) ∧ W.cell? ⟨E, 1, none⟩ = some (.int .i64 q.call) ∧ W.cell? ⟨E, 2, none⟩ = some (.int .i64 q.a) ∧ W.cell? ⟨E, 3, none⟩ = some (.int .i64 q.b) ∧ W.cell? ⟨E, 4, none⟩ = some (.int .i64 q.c) ∧ W.cell? ⟨E, 5, none⟩ = some (.int .i64 q.d) :=
  ⟨Whole.cell h 0, Whole.cell h 1, Whole.cell h 2, Whole.cell h 3, Whole.cell h 4, Whole.cell h 5⟩

/-- Where the run stands at the label. -/
def ToldAt (base Cb : Nat) (A : Option Addr) (n c : Nat) (x : Cw) (q : Ak) (P E : Nat) (W0 : World) (l : List Bx) (code : Int) (a' : Act) (w' : World) : Prop :=
  ∃ u3 u7 u8 u9 u10 u11 u12 u13 u14 u15 u16 u17 u18 u19 u20 u21 u22 u23 u24 u25 u26 u27 u28 u29 u30 u31 u32 u33 u34 u35 u36 u37 u38 u39 u40 u41 u42 u43 u44 u45 u46 u47 u48 : Value, a' = { tmps := #[.pointer (some ⟨Cb, 0, none⟩), .agg #[.int .u8 q.kind, .int .i64 q.call, .int .i64 q.a, .int .i64 q.b, .int .i64 q.c, .int .i64 q.d], .pointer (some ⟨P, 0, none⟩), u3, .pointer (some ⟨E, 0, none⟩), .int .u8 code, .int .i64 0, u7, u8, u9, u10, u11, u12, u13, u14, u15, u16, u17, u18, u19, u20, u21, u22, u23, u24, u25, u26, u27, u28, u29, u30, u31, u32, u33, u34, u35, u36, u37, u38, u39, u40, u41, u42, u43, u44, u45, u46, u47, u48], defers := [] } ∧
    Clu w' base Cb A n c { x with l := l } ∧ AskIn w' E q ∧ Below base W0 w'

section
variable {base Cb g j n c P f : Nat} {A : Option Addr} {lb : Array Value} {x : Cw} {q : Ak} {y y' : Bx} {tc : Int} {W0 : World}

set_option maxRecDepth 100000 in
set_option maxHeartbeats 2000000 in
theorem found1_none (h : Clu W0 base Cb A n c x) (hn : n ≤ 1000) (hf0 : find x.l q.a = none) :
    Calls Try.prog 47 #[.pointer (some ⟨Cb, 0, none⟩), .agg #[.int .u8 q.kind, .int .i64 q.call, .int .i64 q.a, .int .i64 q.b, .int .i64 q.c, .int .i64 q.d], .pointer (some ⟨P, 0, none⟩)] W0 (FoundPost base Cb A n c x x.l (missK x q) q.a W0) := by
  have hV0 : Below W0.heap.size W0 (W0.alloc (.cells #[.int .u8 q.kind, .int .i64 q.call, .int .i64 q.a, .int .i64 q.b, .int .i64 q.c, .int .i64 q.d] 26)) := (Below.refl _ _).alloc (Nat.le_refl _) _
  obtain ⟨V, hV⟩ : ∃ V, W0.alloc (.cells #[.int .u8 q.kind, .int .i64 q.call, .int .i64 q.a, .int .i64 q.b, .int .i64 q.c, .int .i64 q.d] 26) = V := ⟨_, rfl⟩
  have hA : AskIn V W0.heap.size q := by rw [← hV]; exact Whole.new _ _ _
  rw [hV] at hV0
  have H0 := Lib.hid (h.under hV0)
  have HA := Lib.hid hA
  have HV := Lib.hid hV0
  have HB0 := Lib.hid h.le
  have HFi := Lib.hid (fun W (hW : Below V.heap.size V W) => find_any A n c x q.a W.heap.size W ((h.under hV0).under hW).rd (Nat.le_refl _) hn)
  rw [hf0] at HFi
  clear h hf0 hA hV0
  go_enter Try.func47, Try.ntmps47
  go_wp2_with fail
  clear hV
  refine wp_scope_fwd 0 (ToldAt base Cb A n c x q P W0.heap.size W0 x.l (missK x q)) rfl ?first ?tail
  case tail =>
    rintro a' w' ⟨u3, u7, u8, u9, u10, u11, u12, u13, u14, u15, u16, u17, u18, u19, u20, u21, u22, u23, u24, u25, u26, u27, u28, u29, u30, u31, u32, u33, u34, u35, u36, u37, u38, u39, u40, u41, u42, u43, u44, u45, u46, u47, u48, rfl, h3, a3, b3⟩
    obtain ⟨e0, e1, e2, e3, e4, e5⟩ := a3.cells
    have H3 := Lib.hid h3
    have B3 := Lib.hid b3
    clear h3 a3 b3
    go_wp2_with fail
    go_quiet (fail)
    go_wp2_with fail
    simp only [Exit.jump]
    refine bodyPost_ret (v := .tuple #[.int .u8 (missK x q), .int .i64 q.a]) (by simp [results, Try.results47, go_sem]) rfl ?_
    exact ⟨rfl, ⟨H3.out.box, H3.out.row, H3.out.lt, H3.out.le⟩, below_drewN B3.out nq⟩
  case first =>
    go_wp2_with fail
    have HC := Lib.hid ((Below.refl V.heap.size V).drew)
    have HL := Lib.hid (fun W (hW : Below V.heap.size V W) => And.intro (H0.out.under hW).cells (HA.out.under hW).cells)
    refine wp_region_held_drew (S := fun W => Below V.heap.size V W) (by kernel_rfl) HC.out (fun _ => ?_)
    refine takeH (i := 0) (v := ?_) rfl (by kernel_rfl) (by kernel_rfl) (by kernel_rfl) (fun _ _ _ h => h) (by rfl) ?_ HC.out ?_
    rotate_left
    · intro W hW; obtain ⟨⟨d0, d1, d2, d3, d4⟩, e0, e1, e2, e3, e4, e5⟩ := HL.out W hW; go_simp <;> with_reducible rfl
    simp only [Act.put, List.setIfInBounds_toArray, List.set_cons_zero, List.set_cons_succ]
    refine takeH (i := 1) (v := ?_) rfl (by kernel_rfl) (by kernel_rfl) (by kernel_rfl) (fun _ _ _ h => h) (by rfl) ?_ HC.out ?_
    rotate_left
    · intro W hW; obtain ⟨⟨d0, d1, d2, d3, d4⟩, e0, e1, e2, e3, e4, e5⟩ := HL.out W hW; go_simp <;> with_reducible rfl
    simp only [Act.put, List.setIfInBounds_toArray, List.set_cons_zero, List.set_cons_succ]
    refine takeH (i := 2) (v := ?_) rfl (by kernel_rfl) (by kernel_rfl) (by kernel_rfl) (fun _ _ _ h => h) (by rfl) ?_ HC.out ?_
    rotate_left
    · intro W hW; obtain ⟨⟨d0, d1, d2, d3, d4⟩, e0, e1, e2, e3, e4, e5⟩ := HL.out W hW; go_simp <;> with_reducible rfl
    simp only [Act.put, List.setIfInBounds_toArray, List.set_cons_zero, List.set_cons_succ]
    refine takeH (i := 3) (v := ?_) rfl (by kernel_rfl) (by kernel_rfl) (by kernel_rfl) (fun _ _ _ h => h) (by rfl) ?_ HC.out ?_
    rotate_left
    · intro W hW; obtain ⟨⟨d0, d1, d2, d3, d4⟩, e0, e1, e2, e3, e4, e5⟩ := HL.out W hW; go_simp <;> with_reducible rfl
    simp only [Act.put, List.setIfInBounds_toArray, List.set_cons_zero, List.set_cons_succ]
    refine takeH (i := 4) (v := ?_) rfl (by kernel_rfl) (by kernel_rfl) (by kernel_rfl) (fun _ _ _ h => h) (by rfl) ?_ HC.out ?_
    rotate_left
    · intro W hW; obtain ⟨⟨d0, d1, d2, d3, d4⟩, e0, e1, e2, e3, e4, e5⟩ := HL.out W hW; go_simp <;> with_reducible rfl
    simp only [Act.put, List.setIfInBounds_toArray, List.set_cons_zero, List.set_cons_succ]
    refine oneH (i := 5) rfl (by kernel_rfl) (by rfl) (fun K hK => ?_)
    go_simp
    go_at_call 17
    refine (HFi.out _ HC.out).mono ?_
    rintro e y1 ⟨rfl, b9⟩
    have HC2 := Lib.hid (HC.out.trans (b9.mono HC.out.size))
    clear HC b9
    have HC := HC2
    clear HC2
    refine hK.out _ _ HC.out (fun _ => ?_)
    clear hK K
    refine takeH (i := 6) (v := ?_) rfl (by kernel_rfl) (by kernel_rfl) (by kernel_rfl) (fun _ _ _ h => h) (by rfl) ?_ HC.out ?_
    rotate_left
    · intro W hW; obtain ⟨⟨d0, d1, d2, d3, d4⟩, e0, e1, e2, e3, e4, e5⟩ := HL.out W hW; go_simp <;> with_reducible rfl
    simp only [Act.put, List.setIfInBounds_toArray, List.set_cons_zero, List.set_cons_succ]
    refine wpAnyH_done (by kernel_rfl) ?_ _
    have h1 := H0.out.under HC.out
    have a1 := HA.out.under HC.out
    have b1 := (HV.out.mono HB0.out).trans (HC.out.mono (Nat.le_trans HB0.out HV.out.size))
    have H1 := Lib.hid h1
    have A1 := Lib.hid a1
    have B1 := Lib.hid b1
    have BV := Lib.hid HC.out
    clear HL HC h1 a1 b1 HFi
    unfold placeI
    obtain ⟨d0, d1, d2, d3, d4⟩ := H1.out.cells
    obtain ⟨e0, e1, e2, e3, e4, e5⟩ := A1.out.cells
    have HMi := Lib.hid (fun W (hW : Below y1.heap.size y1 W) => missing_any A n c x q W.heap.size W (H1.out.under hW).rd (Nat.le_refl _) hn)
    go_wp2_with fail
    clear d0 d1 d2 d3 d4 e0 e1 e2 e3 e4 e5
    have HC := Lib.hid ((Below.refl y1.heap.size y1).drew)
    have HL := Lib.hid (fun W (hW : Below y1.heap.size y1 W) => And.intro (H1.out.under hW).cells (A1.out.under hW).cells)
    refine wp_region_held_drew (S := fun W => Below y1.heap.size y1 W) (by kernel_rfl) HC.out (fun _ => ?_)
    refine takeH (i := 0) (v := ?_) rfl (by kernel_rfl) (by kernel_rfl) (by kernel_rfl) (fun _ _ _ h => h) (by rfl) ?_ HC.out ?_
    rotate_left
    · intro W hW; obtain ⟨⟨d0, d1, d2, d3, d4⟩, e0, e1, e2, e3, e4, e5⟩ := HL.out W hW; go_simp <;> with_reducible rfl
    simp only [Act.put, List.setIfInBounds_toArray, List.set_cons_zero, List.set_cons_succ]
    refine takeH (i := 1) (v := ?_) rfl (by kernel_rfl) (by kernel_rfl) (by kernel_rfl) (fun _ _ _ h => h) (by rfl) ?_ HC.out ?_
    rotate_left
    · intro W hW; obtain ⟨⟨d0, d1, d2, d3, d4⟩, e0, e1, e2, e3, e4, e5⟩ := HL.out W hW; go_simp <;> with_reducible rfl
    simp only [Act.put, List.setIfInBounds_toArray, List.set_cons_zero, List.set_cons_succ]
    refine takeH (i := 2) (v := ?_) rfl (by kernel_rfl) (by kernel_rfl) (by kernel_rfl) (fun _ _ _ h => h) (by rfl) ?_ HC.out ?_
    rotate_left
    · intro W hW; obtain ⟨⟨d0, d1, d2, d3, d4⟩, e0, e1, e2, e3, e4, e5⟩ := HL.out W hW; go_simp <;> with_reducible rfl
    simp only [Act.put, List.setIfInBounds_toArray, List.set_cons_zero, List.set_cons_succ]
    refine takeH (i := 3) (v := ?_) rfl (by kernel_rfl) (by kernel_rfl) (by kernel_rfl) (fun _ _ _ h => h) (by rfl) ?_ HC.out ?_
    rotate_left
    · intro W hW; obtain ⟨⟨d0, d1, d2, d3, d4⟩, e0, e1, e2, e3, e4, e5⟩ := HL.out W hW; go_simp <;> with_reducible rfl
    simp only [Act.put, List.setIfInBounds_toArray, List.set_cons_zero, List.set_cons_succ]
    refine oneH (i := 4) rfl (by kernel_rfl) (by rfl) (fun K hK => ?_)
    go_simp
    go_at_call 48
    refine (HMi.out _ HC.out).mono ?_
    rintro e y2 ⟨rfl, b9⟩
    have HC2 := Lib.hid (HC.out.trans (b9.mono HC.out.size))
    clear HC b9
    have HC := HC2
    clear HC2
    refine hK.out _ _ HC.out (fun _ => ?_)
    clear hK K
    refine takeH (i := 5) (v := ?_) rfl (by kernel_rfl) (by kernel_rfl) (by kernel_rfl) (fun _ _ _ h => h) (by rfl) ?_ HC.out ?_
    rotate_left
    · intro W hW; obtain ⟨⟨d0, d1, d2, d3, d4⟩, e0, e1, e2, e3, e4, e5⟩ := HL.out W hW; go_simp <;> with_reducible rfl
    simp only [Act.put, List.setIfInBounds_toArray, List.set_cons_zero, List.set_cons_succ]
    refine wpAnyH_done (by kernel_rfl) ?_ _
    have bb := HC.out
    clear HL HC
    go_wp2_with fail
    go_step3
    exact ⟨rfl, _, _, _, _, _, _, _, _, _, _, _, _, _, _, _, _, _, _, _, _, _, _, _, _, _, _, _, _, _, _, _, _, _, _, _, _, _, _, _, _, _, _, _, rfl, H1.out.under bb, A1.out.under bb, B1.out.trans (bb.mono H1.out.le)⟩

set_option maxRecDepth 100000 in
set_option maxHeartbeats 2000000 in
theorem found1_stale (h : Clu W0 base Cb (some ⟨g, 0, none⟩) n c x) (hn : n ≤ 1000) (hf0 : find x.l q.a = some j) (hx : x.l[j]? = some y) (hs : q.call < y.fen) :
    Calls Try.prog 47 #[.pointer (some ⟨Cb, 0, none⟩), .agg #[.int .u8 q.kind, .int .i64 q.call, .int .i64 q.a, .int .i64 q.b, .int .i64 q.c, .int .i64 q.d], .pointer (some ⟨P, 0, none⟩)] W0 (FoundPost base Cb (some ⟨g, 0, none⟩) n c x x.l 5 q.a W0) := by
  have hV0 : Below W0.heap.size W0 (W0.alloc (.cells #[.int .u8 q.kind, .int .i64 q.call, .int .i64 q.a, .int .i64 q.b, .int .i64 q.c, .int .i64 q.d] 26)) := (Below.refl _ _).alloc (Nat.le_refl _) _
  obtain ⟨V, hV⟩ : ∃ V, W0.alloc (.cells #[.int .u8 q.kind, .int .i64 q.call, .int .i64 q.a, .int .i64 q.b, .int .i64 q.c, .int .i64 q.d] 26) = V := ⟨_, rfl⟩
  have hA : AskIn V W0.heap.size q := by rw [← hV]; exact Whole.new _ _ _
  rw [hV] at hV0
  have H0 := Lib.hid (h.under hV0)
  have HA := Lib.hid hA
  have HV := Lib.hid hV0
  have HB0 := Lib.hid h.le
  have HFi := Lib.hid (fun W (hW : Below V.heap.size V W) => find_any (some ⟨g, 0, none⟩) n c x q.a W.heap.size W ((h.under hV0).under hW).rd (Nat.le_refl _) hn)
  rw [hf0] at HFi
  have HX := Lib.hid hx
  have hjn : j < n := by have h1 := (List.getElem?_eq_some_iff.1 hx).1; have := h.len; omega
  have hji : (j : Int) < (n : Int) := by omega
  have hj0 : decide ((j : Int) < 0) = false := decide_eq_false (by omega)
  have hgl := h.row.lt g rfl
  have hd : decide (q.call < y.fen) = true := decide_eq_true hs
  clear h hf0 hx hs hA hV0
  go_enter Try.func47, Try.ntmps47
  go_wp2_with fail
  clear hV
  refine wp_scope_fwd 0 (ToldAt base Cb (some ⟨g, 0, none⟩) n c x q P W0.heap.size W0 x.l 5) rfl ?first ?tail
  case tail =>
    rintro a' w' ⟨u3, u7, u8, u9, u10, u11, u12, u13, u14, u15, u16, u17, u18, u19, u20, u21, u22, u23, u24, u25, u26, u27, u28, u29, u30, u31, u32, u33, u34, u35, u36, u37, u38, u39, u40, u41, u42, u43, u44, u45, u46, u47, u48, rfl, h3, a3, b3⟩
    obtain ⟨e0, e1, e2, e3, e4, e5⟩ := a3.cells
    have H3 := Lib.hid h3
    have B3 := Lib.hid b3
    clear h3 a3 b3
    go_wp2_with fail
    go_quiet (fail)
    go_wp2_with fail
    simp only [Exit.jump]
    refine bodyPost_ret (v := .tuple #[.int .u8 5, .int .i64 q.a]) (by simp [results, Try.results47, go_sem]) rfl ?_
    exact ⟨rfl, ⟨H3.out.box, H3.out.row, H3.out.lt, H3.out.le⟩, below_drewN B3.out nq⟩
  case first =>
    go_wp2_with fail
    have HC := Lib.hid ((Below.refl V.heap.size V).drew)
    have HL := Lib.hid (fun W (hW : Below V.heap.size V W) => And.intro (H0.out.under hW).cells (HA.out.under hW).cells)
    refine wp_region_held_drew (S := fun W => Below V.heap.size V W) (by kernel_rfl) HC.out (fun _ => ?_)
    refine takeH (i := 0) (v := ?_) rfl (by kernel_rfl) (by kernel_rfl) (by kernel_rfl) (fun _ _ _ h => h) (by rfl) ?_ HC.out ?_
    rotate_left
    · intro W hW; obtain ⟨⟨d0, d1, d2, d3, d4⟩, e0, e1, e2, e3, e4, e5⟩ := HL.out W hW; go_simp <;> with_reducible rfl
    simp only [Act.put, List.setIfInBounds_toArray, List.set_cons_zero, List.set_cons_succ]
    refine takeH (i := 1) (v := ?_) rfl (by kernel_rfl) (by kernel_rfl) (by kernel_rfl) (fun _ _ _ h => h) (by rfl) ?_ HC.out ?_
    rotate_left
    · intro W hW; obtain ⟨⟨d0, d1, d2, d3, d4⟩, e0, e1, e2, e3, e4, e5⟩ := HL.out W hW; go_simp <;> with_reducible rfl
    simp only [Act.put, List.setIfInBounds_toArray, List.set_cons_zero, List.set_cons_succ]
    refine takeH (i := 2) (v := ?_) rfl (by kernel_rfl) (by kernel_rfl) (by kernel_rfl) (fun _ _ _ h => h) (by rfl) ?_ HC.out ?_
    rotate_left
    · intro W hW; obtain ⟨⟨d0, d1, d2, d3, d4⟩, e0, e1, e2, e3, e4, e5⟩ := HL.out W hW; go_simp <;> with_reducible rfl
    simp only [Act.put, List.setIfInBounds_toArray, List.set_cons_zero, List.set_cons_succ]
    refine takeH (i := 3) (v := ?_) rfl (by kernel_rfl) (by kernel_rfl) (by kernel_rfl) (fun _ _ _ h => h) (by rfl) ?_ HC.out ?_
    rotate_left
    · intro W hW; obtain ⟨⟨d0, d1, d2, d3, d4⟩, e0, e1, e2, e3, e4, e5⟩ := HL.out W hW; go_simp <;> with_reducible rfl
    simp only [Act.put, List.setIfInBounds_toArray, List.set_cons_zero, List.set_cons_succ]
    refine takeH (i := 4) (v := ?_) rfl (by kernel_rfl) (by kernel_rfl) (by kernel_rfl) (fun _ _ _ h => h) (by rfl) ?_ HC.out ?_
    rotate_left
    · intro W hW; obtain ⟨⟨d0, d1, d2, d3, d4⟩, e0, e1, e2, e3, e4, e5⟩ := HL.out W hW; go_simp <;> with_reducible rfl
    simp only [Act.put, List.setIfInBounds_toArray, List.set_cons_zero, List.set_cons_succ]
    refine oneH (i := 5) rfl (by kernel_rfl) (by rfl) (fun K hK => ?_)
    go_simp
    go_at_call 17
    refine (HFi.out _ HC.out).mono ?_
    rintro e y1 ⟨rfl, b9⟩
    have HC2 := Lib.hid (HC.out.trans (b9.mono HC.out.size))
    clear HC b9
    have HC := HC2
    clear HC2
    refine hK.out _ _ HC.out (fun _ => ?_)
    clear hK K
    refine takeH (i := 6) (v := ?_) rfl (by kernel_rfl) (by kernel_rfl) (by kernel_rfl) (fun _ _ _ h => h) (by rfl) ?_ HC.out ?_
    rotate_left
    · intro W hW; obtain ⟨⟨d0, d1, d2, d3, d4⟩, e0, e1, e2, e3, e4, e5⟩ := HL.out W hW; go_simp <;> with_reducible rfl
    simp only [Act.put, List.setIfInBounds_toArray, List.set_cons_zero, List.set_cons_succ]
    refine wpAnyH_done (by kernel_rfl) ?_ _
    have h1 := H0.out.under HC.out
    have a1 := HA.out.under HC.out
    have b1 := (HV.out.mono HB0.out).trans (HC.out.mono (Nat.le_trans HB0.out HV.out.size))
    have H1 := Lib.hid h1
    have A1 := Lib.hid a1
    have B1 := Lib.hid b1
    have BV := Lib.hid HC.out
    clear HL HC h1 a1 b1 HFi
    unfold placeI
    obtain ⟨d0, d1, d2, d3, d4⟩ := H1.out.cells
    obtain ⟨e0, e1, e2, e3, e4, e5⟩ := A1.out.cells
    obtain ⟨b0, b1, b2, b3, b4, b5, b6, b7, b8, b9, b10⟩ := H1.out.at_ HX.out
    go_wp2_with fail
    go_quiet (fail)
    go_wp2_with fail
    go_step3
    exact ⟨rfl, _, _, _, _, _, _, _, _, _, _, _, _, _, _, _, _, _, _, _, _, _, _, _, _, _, _, _, _, _, _, _, _, _, _, _, _, _, _, _, _, _, _, _, rfl, ⟨H1.out.box, H1.out.row, H1.out.lt, H1.out.le⟩, A1.out.under (below_drewN (Below.refl _ _) nq), below_drewN B1.out nq⟩

set_option maxRecDepth 100000 in
set_option maxHeartbeats 2000000 in
theorem found1_one (h : Clu W0 base Cb (some ⟨g, 0, none⟩) n c x) (hn : n ≤ 1000) (hf0 : find x.l q.a = some j) (hx : x.l[j]? = some y)
    (hP : W0.cell? ⟨P, 0, none⟩ = some (.func (.func f) #[] lb)) (hf : ∀ args w, (callFunc f args).run Try.prog w = .ok (.enter f args) w)
    (hin : ∀ W, Below W0.heap.size W0 W → Calls Try.prog f (#[.pointer (some ⟨Cb, 0, none⟩), .pointer (some ⟨g, j * 11, none⟩)] ++ lb) W (TouchPost base Cb g n c x j tc y' W)) (hs : ¬ q.call < y.fen) (htc : tc = 1) :
    Calls Try.prog 47 #[.pointer (some ⟨Cb, 0, none⟩), .agg #[.int .u8 q.kind, .int .i64 q.call, .int .i64 q.a, .int .i64 q.b, .int .i64 q.c, .int .i64 q.d], .pointer (some ⟨P, 0, none⟩)] W0 (FoundPost base Cb (some ⟨g, 0, none⟩) n c x (x.l.set j { y' with fen := q.call }) 1 q.a W0) := by
  have hV0 : Below W0.heap.size W0 (W0.alloc (.cells #[.int .u8 q.kind, .int .i64 q.call, .int .i64 q.a, .int .i64 q.b, .int .i64 q.c, .int .i64 q.d] 26)) := (Below.refl _ _).alloc (Nat.le_refl _) _
  obtain ⟨V, hV⟩ : ∃ V, W0.alloc (.cells #[.int .u8 q.kind, .int .i64 q.call, .int .i64 q.a, .int .i64 q.b, .int .i64 q.c, .int .i64 q.d] 26) = V := ⟨_, rfl⟩
  have hA : AskIn V W0.heap.size q := by rw [← hV]; exact Whole.new _ _ _
  rw [hV] at hV0
  have H0 := Lib.hid (h.under hV0)
  have HA := Lib.hid hA
  have HV := Lib.hid hV0
  have HB0 := Lib.hid h.le
  have HFi := Lib.hid (fun W (hW : Below V.heap.size V W) => find_any (some ⟨g, 0, none⟩) n c x q.a W.heap.size W ((h.under hV0).under hW).rd (Nat.le_refl _) hn)
  rw [hf0] at HFi
  have HX := Lib.hid hx
  have hjn : j < n := by have h1 := (List.getElem?_eq_some_iff.1 hx).1; have := h.len; omega
  have hji : (j : Int) < (n : Int) := by omega
  have hj0 : decide ((j : Int) < 0) = false := decide_eq_false (by omega)
  have hgl := h.row.lt g rfl
  subst htc
  have hd : decide (q.call < y.fen) = false := decide_eq_false hs
  have HP := Lib.hid (fun W (hW : Below V.heap.size V W) => cell_below (cell_below hP hV0) hW)
  have HIn := Lib.hid (fun W (hW : Below V.heap.size V W) => hin W (hV0.trans (hW.mono hV0.size)))
  have hbg : base ≤ g := (h.form hx).elim fun g' e => by have h1 := e.1; injection h1 with h1; injection h1 with h1; rw [h1]; exact e.2.1
  clear h hf0 hx hs hP hin hA hV0
  go_enter Try.func47, Try.ntmps47
  go_wp2_with fail
  clear hV
  refine wp_scope_fwd 0 (ToldAt base Cb (some ⟨g, 0, none⟩) n c x q P W0.heap.size W0 (x.l.set j { y' with fen := q.call }) 1) rfl ?first ?tail
  case tail =>
    rintro a' w' ⟨u3, u7, u8, u9, u10, u11, u12, u13, u14, u15, u16, u17, u18, u19, u20, u21, u22, u23, u24, u25, u26, u27, u28, u29, u30, u31, u32, u33, u34, u35, u36, u37, u38, u39, u40, u41, u42, u43, u44, u45, u46, u47, u48, rfl, h3, a3, b3⟩
    obtain ⟨e0, e1, e2, e3, e4, e5⟩ := a3.cells
    have H3 := Lib.hid h3
    have B3 := Lib.hid b3
    clear h3 a3 b3
    go_wp2_with fail
    go_quiet (fail)
    go_wp2_with fail
    simp only [Exit.jump]
    refine bodyPost_ret (v := .tuple #[.int .u8 1, .int .i64 q.a]) (by simp [results, Try.results47, go_sem]) rfl ?_
    exact ⟨rfl, ⟨H3.out.box, H3.out.row, H3.out.lt, H3.out.le⟩, below_drewN B3.out nq⟩
  case first =>
    go_wp2_with fail
    have HC := Lib.hid ((Below.refl V.heap.size V).drew)
    have HL := Lib.hid (fun W (hW : Below V.heap.size V W) => And.intro (H0.out.under hW).cells (HA.out.under hW).cells)
    refine wp_region_held_drew (S := fun W => Below V.heap.size V W) (by kernel_rfl) HC.out (fun _ => ?_)
    refine takeH (i := 0) (v := ?_) rfl (by kernel_rfl) (by kernel_rfl) (by kernel_rfl) (fun _ _ _ h => h) (by rfl) ?_ HC.out ?_
    rotate_left
    · intro W hW; obtain ⟨⟨d0, d1, d2, d3, d4⟩, e0, e1, e2, e3, e4, e5⟩ := HL.out W hW; go_simp <;> with_reducible rfl
    simp only [Act.put, List.setIfInBounds_toArray, List.set_cons_zero, List.set_cons_succ]
    refine takeH (i := 1) (v := ?_) rfl (by kernel_rfl) (by kernel_rfl) (by kernel_rfl) (fun _ _ _ h => h) (by rfl) ?_ HC.out ?_
    rotate_left
    · intro W hW; obtain ⟨⟨d0, d1, d2, d3, d4⟩, e0, e1, e2, e3, e4, e5⟩ := HL.out W hW; go_simp <;> with_reducible rfl
    simp only [Act.put, List.setIfInBounds_toArray, List.set_cons_zero, List.set_cons_succ]
    refine takeH (i := 2) (v := ?_) rfl (by kernel_rfl) (by kernel_rfl) (by kernel_rfl) (fun _ _ _ h => h) (by rfl) ?_ HC.out ?_
    rotate_left
    · intro W hW; obtain ⟨⟨d0, d1, d2, d3, d4⟩, e0, e1, e2, e3, e4, e5⟩ := HL.out W hW; go_simp <;> with_reducible rfl
    simp only [Act.put, List.setIfInBounds_toArray, List.set_cons_zero, List.set_cons_succ]
    refine takeH (i := 3) (v := ?_) rfl (by kernel_rfl) (by kernel_rfl) (by kernel_rfl) (fun _ _ _ h => h) (by rfl) ?_ HC.out ?_
    rotate_left
    · intro W hW; obtain ⟨⟨d0, d1, d2, d3, d4⟩, e0, e1, e2, e3, e4, e5⟩ := HL.out W hW; go_simp <;> with_reducible rfl
    simp only [Act.put, List.setIfInBounds_toArray, List.set_cons_zero, List.set_cons_succ]
    refine takeH (i := 4) (v := ?_) rfl (by kernel_rfl) (by kernel_rfl) (by kernel_rfl) (fun _ _ _ h => h) (by rfl) ?_ HC.out ?_
    rotate_left
    · intro W hW; obtain ⟨⟨d0, d1, d2, d3, d4⟩, e0, e1, e2, e3, e4, e5⟩ := HL.out W hW; go_simp <;> with_reducible rfl
    simp only [Act.put, List.setIfInBounds_toArray, List.set_cons_zero, List.set_cons_succ]
    refine oneH (i := 5) rfl (by kernel_rfl) (by rfl) (fun K hK => ?_)
    go_simp
    go_at_call 17
    refine (HFi.out _ HC.out).mono ?_
    rintro e y1 ⟨rfl, b9⟩
    have HC2 := Lib.hid (HC.out.trans (b9.mono HC.out.size))
    clear HC b9
    have HC := HC2
    clear HC2
    refine hK.out _ _ HC.out (fun _ => ?_)
    clear hK K
    refine takeH (i := 6) (v := ?_) rfl (by kernel_rfl) (by kernel_rfl) (by kernel_rfl) (fun _ _ _ h => h) (by rfl) ?_ HC.out ?_
    rotate_left
    · intro W hW; obtain ⟨⟨d0, d1, d2, d3, d4⟩, e0, e1, e2, e3, e4, e5⟩ := HL.out W hW; go_simp <;> with_reducible rfl
    simp only [Act.put, List.setIfInBounds_toArray, List.set_cons_zero, List.set_cons_succ]
    refine wpAnyH_done (by kernel_rfl) ?_ _
    have h1 := H0.out.under HC.out
    have a1 := HA.out.under HC.out
    have b1 := (HV.out.mono HB0.out).trans (HC.out.mono (Nat.le_trans HB0.out HV.out.size))
    have H1 := Lib.hid h1
    have A1 := Lib.hid a1
    have B1 := Lib.hid b1
    have BV := Lib.hid HC.out
    clear HL HC h1 a1 b1 HFi
    unfold placeI
    obtain ⟨d0, d1, d2, d3, d4⟩ := H1.out.cells
    obtain ⟨e0, e1, e2, e3, e4, e5⟩ := A1.out.cells
    obtain ⟨b0, b1, b2, b3, b4, b5, b6, b7, b8, b9, b10⟩ := H1.out.at_ HX.out
    go_wp2_with fail
    go_quiet (fail)
    have hp := HP.out _ (below_drewN BV.out nq)
    clear d0 d1 d2 d3 d4 e0 e1 e2 e3 e4 e5 b0 b1 b2 b3 b4 b5 b6 b7 b8 b9 b10 hd
    go_wp2_with fail
    refine (HIn.out _ (below_drewN BV.out nq)).mono ?_
    rintro e w3 ⟨rfl, h3, g3⟩
    have a3 : AskIn w3 W0.heap.size q := Whole.grown (A1.out.under (below_drewN (Below.refl _ _) nq)) g3 (by simp; omega)
    have hb3 : Below base W0 w3 := (below_drewN B1.out nq).trans ((Below.refl _ _).grown g3 H1.out.le (fun k e => by cases e; exact hbg))
    obtain ⟨e0, e1, e2, e3, e4, e5⟩ := a3.cells
    obtain ⟨b0, b1, b2, b3, b4, b5, b6, b7, b8, b9, b10⟩ := h3.at_ (set_at HX.out)
    have f10 := h3.frz (j * 11 + 10)
    have h4 := h3.set (set_at HX.out) (i := 10) (by omega) (u := .int .i64 q.call) (y' := { y' with fen := q.call }) rfl
    rw [set_set] at h4
    have h3le := h3.le
    have H4 := Lib.hid h4
    have A3 := Lib.hid a3
    have HB3 := Lib.hid hb3
    clear h4 h3 a3 hb3 g3
    go_wp2_with fail
    obtain ⟨w4, hw4⟩ : ∃ w4, w3.setCell ⟨g, j * 11 + 10, none⟩ (.int .i64 q.call) = w4 := ⟨_, rfl⟩
    have a4 : AskIn w4 W0.heap.size q := by rw [← hw4]; exact Whole.far A3.out (p := ⟨g, j * 11 + 10, none⟩) (by show W0.heap.size ≠ g; omega) _
    rw [hw4] at H4 ⊢
    have hb4 : Below base W0 w4 := HB3.out.trans ((Below.refl _ _).grown H4.out.2 h3le (fun k e => by cases e; exact hbg))
    clear hw4 e0 e1 e2 e3 e4 e5
    obtain ⟨e0, e1, e2, e3, e4, e5⟩ := a4.cells
    clear b0 b1 b2 b3 b4 b5 b6 b7 b8 b9 b10 f10
    go_wp2_with fail
    go_step3
    go_wp2_with fail
    go_quiet (fail)
    go_wp2_with fail
    simp only [Exit.jump]
    refine bodyPost_ret (v := .tuple #[.int .u8 1, .int .i64 q.a]) (by simp [results, Try.results47, go_sem]) rfl ?_
    exact ⟨rfl, ⟨H4.out.1.box, H4.out.1.row, H4.out.1.lt, H4.out.1.le⟩, below_drewN hb4 _⟩

set_option maxRecDepth 100000 in
set_option maxHeartbeats 2000000 in
theorem found1_not (h : Clu W0 base Cb (some ⟨g, 0, none⟩) n c x) (hn : n ≤ 1000) (hf0 : find x.l q.a = some j) (hx : x.l[j]? = some y)
    (hP : W0.cell? ⟨P, 0, none⟩ = some (.func (.func f) #[] lb)) (hf : ∀ args w, (callFunc f args).run Try.prog w = .ok (.enter f args) w)
    (hin : ∀ W, Below W0.heap.size W0 W → Calls Try.prog f (#[.pointer (some ⟨Cb, 0, none⟩), .pointer (some ⟨g, j * 11, none⟩)] ++ lb) W (TouchPost base Cb g n c x j tc y' W)) (hs : ¬ q.call < y.fen) (htc : tc ≠ 1) :
    Calls Try.prog 47 #[.pointer (some ⟨Cb, 0, none⟩), .agg #[.int .u8 q.kind, .int .i64 q.call, .int .i64 q.a, .int .i64 q.b, .int .i64 q.c, .int .i64 q.d], .pointer (some ⟨P, 0, none⟩)] W0 (FoundPost base Cb (some ⟨g, 0, none⟩) n c x (x.l.set j y') tc q.a W0) := by
  have hV0 : Below W0.heap.size W0 (W0.alloc (.cells #[.int .u8 q.kind, .int .i64 q.call, .int .i64 q.a, .int .i64 q.b, .int .i64 q.c, .int .i64 q.d] 26)) := (Below.refl _ _).alloc (Nat.le_refl _) _
  obtain ⟨V, hV⟩ : ∃ V, W0.alloc (.cells #[.int .u8 q.kind, .int .i64 q.call, .int .i64 q.a, .int .i64 q.b, .int .i64 q.c, .int .i64 q.d] 26) = V := ⟨_, rfl⟩
  have hA : AskIn V W0.heap.size q := by rw [← hV]; exact Whole.new _ _ _
  rw [hV] at hV0
  have H0 := Lib.hid (h.under hV0)
  have HA := Lib.hid hA
  have HV := Lib.hid hV0
  have HB0 := Lib.hid h.le
  have HFi := Lib.hid (fun W (hW : Below V.heap.size V W) => find_any (some ⟨g, 0, none⟩) n c x q.a W.heap.size W ((h.under hV0).under hW).rd (Nat.le_refl _) hn)
  rw [hf0] at HFi
  have HX := Lib.hid hx
  have hjn : j < n := by have h1 := (List.getElem?_eq_some_iff.1 hx).1; have := h.len; omega
  have hji : (j : Int) < (n : Int) := by omega
  have hj0 : decide ((j : Int) < 0) = false := decide_eq_false (by omega)
  have hgl := h.row.lt g rfl
  have hcb : (tc == 1) = false := by simpa using htc
  have hd : decide (q.call < y.fen) = false := decide_eq_false hs
  have HP := Lib.hid (fun W (hW : Below V.heap.size V W) => cell_below (cell_below hP hV0) hW)
  have HIn := Lib.hid (fun W (hW : Below V.heap.size V W) => hin W (hV0.trans (hW.mono hV0.size)))
  have hbg : base ≤ g := (h.form hx).elim fun g' e => by have h1 := e.1; injection h1 with h1; injection h1 with h1; rw [h1]; exact e.2.1
  clear h hf0 hx hs hP hin htc hA hV0
  go_enter Try.func47, Try.ntmps47
  go_wp2_with fail
  clear hV
  refine wp_scope_fwd 0 (ToldAt base Cb (some ⟨g, 0, none⟩) n c x q P W0.heap.size W0 (x.l.set j y') tc) rfl ?first ?tail
  case tail =>
    rintro a' w' ⟨u3, u7, u8, u9, u10, u11, u12, u13, u14, u15, u16, u17, u18, u19, u20, u21, u22, u23, u24, u25, u26, u27, u28, u29, u30, u31, u32, u33, u34, u35, u36, u37, u38, u39, u40, u41, u42, u43, u44, u45, u46, u47, u48, rfl, h3, a3, b3⟩
    obtain ⟨e0, e1, e2, e3, e4, e5⟩ := a3.cells
    have H3 := Lib.hid h3
    have B3 := Lib.hid b3
    clear h3 a3 b3
    go_wp2_with fail
    go_quiet (fail)
    go_wp2_with fail
    simp only [Exit.jump]
    refine bodyPost_ret (v := .tuple #[.int .u8 tc, .int .i64 q.a]) (by simp [results, Try.results47, go_sem]) rfl ?_
    exact ⟨rfl, ⟨H3.out.box, H3.out.row, H3.out.lt, H3.out.le⟩, below_drewN B3.out nq⟩
  case first =>
    go_wp2_with fail
    have HC := Lib.hid ((Below.refl V.heap.size V).drew)
    have HL := Lib.hid (fun W (hW : Below V.heap.size V W) => And.intro (H0.out.under hW).cells (HA.out.under hW).cells)
    refine wp_region_held_drew (S := fun W => Below V.heap.size V W) (by kernel_rfl) HC.out (fun _ => ?_)
    refine takeH (i := 0) (v := ?_) rfl (by kernel_rfl) (by kernel_rfl) (by kernel_rfl) (fun _ _ _ h => h) (by rfl) ?_ HC.out ?_
    rotate_left
    · intro W hW; obtain ⟨⟨d0, d1, d2, d3, d4⟩, e0, e1, e2, e3, e4, e5⟩ := HL.out W hW; go_simp <;> with_reducible rfl
    simp only [Act.put, List.setIfInBounds_toArray, List.set_cons_zero, List.set_cons_succ]
    refine takeH (i := 1) (v := ?_) rfl (by kernel_rfl) (by kernel_rfl) (by kernel_rfl) (fun _ _ _ h => h) (by rfl) ?_ HC.out ?_
    rotate_left
    · intro W hW; obtain ⟨⟨d0, d1, d2, d3, d4⟩, e0, e1, e2, e3, e4, e5⟩ := HL.out W hW; go_simp <;> with_reducible rfl
    simp only [Act.put, List.setIfInBounds_toArray, List.set_cons_zero, List.set_cons_succ]
    refine takeH (i := 2) (v := ?_) rfl (by kernel_rfl) (by kernel_rfl) (by kernel_rfl) (fun _ _ _ h => h) (by rfl) ?_ HC.out ?_
    rotate_left
    · intro W hW; obtain ⟨⟨d0, d1, d2, d3, d4⟩, e0, e1, e2, e3, e4, e5⟩ := HL.out W hW; go_simp <;> with_reducible rfl
    simp only [Act.put, List.setIfInBounds_toArray, List.set_cons_zero, List.set_cons_succ]
    refine takeH (i := 3) (v := ?_) rfl (by kernel_rfl) (by kernel_rfl) (by kernel_rfl) (fun _ _ _ h => h) (by rfl) ?_ HC.out ?_
    rotate_left
    · intro W hW; obtain ⟨⟨d0, d1, d2, d3, d4⟩, e0, e1, e2, e3, e4, e5⟩ := HL.out W hW; go_simp <;> with_reducible rfl
    simp only [Act.put, List.setIfInBounds_toArray, List.set_cons_zero, List.set_cons_succ]
    refine takeH (i := 4) (v := ?_) rfl (by kernel_rfl) (by kernel_rfl) (by kernel_rfl) (fun _ _ _ h => h) (by rfl) ?_ HC.out ?_
    rotate_left
    · intro W hW; obtain ⟨⟨d0, d1, d2, d3, d4⟩, e0, e1, e2, e3, e4, e5⟩ := HL.out W hW; go_simp <;> with_reducible rfl
    simp only [Act.put, List.setIfInBounds_toArray, List.set_cons_zero, List.set_cons_succ]
    refine oneH (i := 5) rfl (by kernel_rfl) (by rfl) (fun K hK => ?_)
    go_simp
    go_at_call 17
    refine (HFi.out _ HC.out).mono ?_
    rintro e y1 ⟨rfl, b9⟩
    have HC2 := Lib.hid (HC.out.trans (b9.mono HC.out.size))
    clear HC b9
    have HC := HC2
    clear HC2
    refine hK.out _ _ HC.out (fun _ => ?_)
    clear hK K
    refine takeH (i := 6) (v := ?_) rfl (by kernel_rfl) (by kernel_rfl) (by kernel_rfl) (fun _ _ _ h => h) (by rfl) ?_ HC.out ?_
    rotate_left
    · intro W hW; obtain ⟨⟨d0, d1, d2, d3, d4⟩, e0, e1, e2, e3, e4, e5⟩ := HL.out W hW; go_simp <;> with_reducible rfl
    simp only [Act.put, List.setIfInBounds_toArray, List.set_cons_zero, List.set_cons_succ]
    refine wpAnyH_done (by kernel_rfl) ?_ _
    have h1 := H0.out.under HC.out
    have a1 := HA.out.under HC.out
    have b1 := (HV.out.mono HB0.out).trans (HC.out.mono (Nat.le_trans HB0.out HV.out.size))
    have H1 := Lib.hid h1
    have A1 := Lib.hid a1
    have B1 := Lib.hid b1
    have BV := Lib.hid HC.out
    clear HL HC h1 a1 b1 HFi
    unfold placeI
    obtain ⟨d0, d1, d2, d3, d4⟩ := H1.out.cells
    obtain ⟨e0, e1, e2, e3, e4, e5⟩ := A1.out.cells
    obtain ⟨b0, b1, b2, b3, b4, b5, b6, b7, b8, b9, b10⟩ := H1.out.at_ HX.out
    go_wp2_with fail
    go_quiet (fail)
    have hp := HP.out _ (below_drewN BV.out nq)
    clear d0 d1 d2 d3 d4 e0 e1 e2 e3 e4 e5 b0 b1 b2 b3 b4 b5 b6 b7 b8 b9 b10 hd
    go_wp2_with fail
    refine (HIn.out _ (below_drewN BV.out nq)).mono ?_
    rintro e w3 ⟨rfl, h3, g3⟩
    have a3 : AskIn w3 W0.heap.size q := Whole.grown (A1.out.under (below_drewN (Below.refl _ _) nq)) g3 (by simp; omega)
    have hb3 : Below base W0 w3 := (below_drewN B1.out nq).trans ((Below.refl _ _).grown g3 H1.out.le (fun k e => by cases e; exact hbg))
    obtain ⟨e0, e1, e2, e3, e4, e5⟩ := a3.cells
    obtain ⟨b0, b1, b2, b3, b4, b5, b6, b7, b8, b9, b10⟩ := h3.at_ (set_at HX.out)
    have f10 := h3.frz (j * 11 + 10)
    have H3 := Lib.hid h3
    have HB3 := Lib.hid hb3
    clear h3 a3 hb3 g3 b0 b1 b2 b3 b4 b5 b6 b7 b8 b9 b10 f10
    go_wp2_with fail
    go_step3
    go_wp2_with fail
    go_quiet (fail)
    go_wp2_with fail
    simp only [Exit.jump]
    refine bodyPost_ret (v := .tuple #[.int .u8 tc, .int .i64 q.a]) (by simp [results, Try.results47, go_sem]) rfl ?_
    exact ⟨rfl, ⟨H3.out.box, H3.out.row, H3.out.lt, H3.out.le⟩, below_drewN HB3.out _⟩

set_option maxRecDepth 100000 in
/-- What is done to the box that is found. -/
theorem found1_any {q : Ak} (h : Clu W0 base Cb A n c x) (hn : n ≤ 1000) (hP : W0.cell? ⟨P, 0, none⟩ = some (.func (.func f) #[] lb)) (hf : ∀ args w, (callFunc f args).run Try.prog w = .ok (.enter f args) w) (tc : Bx → Int) (ty : Bx → Bx)
    (hin : ∀ g j y W, A = some ⟨g, 0, none⟩ → x.l[j]? = some y → Below W0.heap.size W0 W → Calls Try.prog f (#[.pointer (some ⟨Cb, 0, none⟩), .pointer (some ⟨g, j * 11, none⟩)] ++ lb) W (TouchPost base Cb g n c x j (tc y) (ty y) W)) :
    Calls Try.prog 47 #[.pointer (some ⟨Cb, 0, none⟩), .agg #[.int .u8 q.kind, .int .i64 q.call, .int .i64 q.a, .int .i64 q.b, .int .i64 q.c, .int .i64 q.d], .pointer (some ⟨P, 0, none⟩)] W0 (FoundPost base Cb A n c x (foundP x q tc ty).1 (foundP x q tc ty).2 q.a W0) := by
  cases hf0 : find x.l q.a with
  | none =>
    simp only [foundP, hf0]
    exact found1_none h hn hf0
  | some j =>
    obtain ⟨y, hx, _⟩ := firstAt_some hf0
    obtain ⟨g, rfl, _⟩ := h.form hx
    simp only [foundP, hf0, hx]
    by_cases hs : q.call < y.fen
    · rw [if_pos hs]
      exact found1_stale h hn hf0 hx hs
    · rw [if_neg hs]
      by_cases ht : tc y = 1
      · rw [if_pos ht]
        exact found1_one h hn hf0 hx hP hf (hin g j y · rfl hx) hs ht
      · rw [if_neg ht]
        exact found1_not h hn hf0 hx hP hf (hin g j y · rfl hx) hs ht
end

end Go.Proofs.Ytphkleecodoplaa
