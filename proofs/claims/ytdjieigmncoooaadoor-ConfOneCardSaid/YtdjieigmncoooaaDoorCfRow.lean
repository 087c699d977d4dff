/-
  The walk of 'Row' of package conf. Conditions: those that each theorem names.
-/
import Derived.Test.YtdjieigmncoooaaDoorCfBasic
import Derived.Test.YtdjieigmncoooaaDoorCfVals
import Derived.Laws.MakeOwn
namespace Go.Proofs.YtdjieigmncoooaaDoor
open Go.RowKit Go.Shelf
attribute [local go_sem] Oper.semAt_some

/-- The first k numbers, noughts behind. -/
def rowTo (x : Cf) (cap k : Nat) : Array Value := ((x.fs.take k ++ List.replicate (cap - k) 0).map (Value.int .i64)).toArray
set_option maxRecDepth 100000 in
theorem rowTo_step (x : Cf) {cap k : Nat} (hk : k < 13) (hc : 13 ≤ cap) : (rowTo x cap k).setIfInBounds k (.int .i64 (x.at k)) = rowTo x cap (k + 1) := by
  have h1 : (x.fs.take k).length = k := by rw [List.length_take, Cf.fs_len]; omega
  have h2 : cap - k = (cap - (k + 1)) + 1 := by omega
  have h3 : x.fs.take (k + 1) = x.fs.take k ++ [x.at k] := by
    have hl : k < x.fs.length := by rw [Cf.fs_len]; exact hk
    rw [List.take_succ_eq_append_getElem hl]
    unfold Cf.at
    rw [List.getD_eq_getElem?_getD, List.getElem?_eq_getElem hl]
    rfl
  unfold rowTo
  rw [h2, List.replicate_succ, h3]
  simp only [List.setIfInBounds_toArray, List.map_append, List.map_cons, List.append_assoc, List.map_nil]
  rw [List.set_append_right _ _ (by rw [List.length_map, h1]; exact Nat.le_refl _), List.length_map, h1, Nat.sub_self, List.set_cons_zero]
  rfl
set_option maxRecDepth 100000 in
theorem rowTo_cell (x : Cf) {cap k : Nat} (hk : k < 13) (hc : 13 ≤ cap) : (rowTo x cap k)[k]? = some (.int .i64 0) := by
  have h1 : (x.fs.take k).length = k := by rw [List.length_take, Cf.fs_len]; omega
  have h2 : cap - k = (cap - (k + 1)) + 1 := by omega
  unfold rowTo
  rw [h2, List.replicate_succ, List.getElem?_toArray, List.getElem?_map, List.getElem?_append_right (by omega), h1, Nat.sub_self]
  rfl
set_option maxRecDepth 100000 in
theorem rowTo_size (x : Cf) {cap k : Nat} (hk : k ≤ 13) (hc : 13 ≤ cap) : (rowTo x cap k).size = cap := by
  unfold rowTo
  simp [Cf.fs]
  omega
set_option maxRecDepth 100000 in
theorem rowTo_none (x : Cf) (cap : Nat) : rowTo x cap 0 = Array.replicate cap (.int .i64 0) := by
  unfold rowTo
  simp
set_option maxRecDepth 100000 in
/-- With Skip stored behind them. -/
theorem rowTo_skip (x : Cf) (n : Nat) : ((rowTo x (14 + n) 13).setIfInBounds 13 (.int .i64 1)).toList.take 14 = iv (x.fs ++ [1]) ∧ (rowTo x (14 + n) 13).toList.take 14 = iv (x.fs ++ [0]) ∧ (rowTo x (14 + n) 13)[13]? = some (.int .i64 0) := by
  have h2 : 14 + n - 13 = n + 1 := by omega
  unfold rowTo
  rw [h2, List.replicate_succ]
  simp [Cf.fs, iv]

set_option maxRecDepth 100000 in
theorem run_make14 (w : World) (n : Nat) (hn : n ≤ 1000) : (Instr.makeSlice 22 (.int .i64 14) (.int .i64 (14 + (n : Int)))).run Tryd.prog w = .ok (.slice (some ⟨w.heap.size, 0, none⟩) 14 (14 + n)) (w.alloc (.cells (Array.replicate (14 + n) (.int .i64 0)) 3)) := by
  obtain ⟨i0, hi, hz0, hz1, hz2⟩ := info_parts info_int
  have h := run_make (P := Tryd.prog) w 22 3 i0 _ Tryd.underlying22 hi hz0 .i64 .i64 14 (14 + (n : Int)) (by omega) (by omega) (by rw [hz2]; omega) (by omega)
  have e1 : (14 + (n : Int)).toNat * i0.size = 14 + n := by rw [hz1]; omega
  have e2 : (14 + (n : Int)).toNat = 14 + n := by omega
  rw [h, e1, e2]
  have e3 : ∀ m, madeCells (Value.int .i64 0).cells m = Array.replicate m (.int .i64 0) := fun m => by
    unfold madeCells
    refine Array.ext (by simp) fun i h1 h2 => ?_
    simp [Value.cells, Nat.mod_one]
  rw [e3]
  rfl

/-- What holds between two rounds. -/
structure RowAt (x : Cf) (w : World) (L : Nat) (pre : List Nat) (W : World) : Prop where
  box : Whole W w.heap.size 24 x.cells
  lbox : Whole W (L + 1) 22 #[.slice (some ⟨L, 0, none⟩) 14 (14 + x.n)]
  row : Whole W L 3 (rowTo x (14 + x.n) pre.length)
  below : Below w.heap.size w W

set_option maxRecDepth 100000 in
theorem rowAt_own (x : Cf) (w : World) (L B : Nat) (hB : w.heap.size ≤ B) : OwnFrom B (RowAt x w L) := by
  intro pre W1 W2 row h hg hr
  have hr' : ∀ r, row = some r → ∃ o : Obj, W1.heap[r]? = some o ∧ o.isCells = false := fun r e => (hr r e).2
  exact ⟨h.box.turn hg hr', h.lbox.turn hg hr', h.row.turn hg hr', h.below.grown hg h.below.size (fun k e => by have := (hr k e).1; omega)⟩

set_option maxRecDepth 100000 in
/-- The marks put behind the numbers and Skip. -/
theorem row_app (x : Cf) (w W : World) (L : Nat) (cells : Array Value) (s : Int) (hw : Whole W L 3 cells) (hsz : cells.size = 14 + x.n) (ht : cells.toList.take 14 = iv (x.fs ++ [s])) (hL : w.heap.size ≤ L) (hn : x.n ≤ 1000) (hx : Lies x W w.heap.size) (hb : Below w.heap.size w W) :
    ∃ A c W3, (Builtin.append_ #[22, 22] 22 #[.slice (some ⟨L, 0, none⟩) 14 (14 + x.n), .slice x.A x.n x.c]).run Tryd.prog W = .ok (.slice A (14 + x.n) c) W3 ∧
      W3.ownsRow w.heap.size 3 1 (.slice A (14 + x.n) c) (14 + x.n) (iv (x.fs ++ s :: x.ms)) ∧ Below w.heap.size w W3 ∧ KeepsOthers W W3 := by
  have hown : W.ownsRow w.heap.size 3 1 (.slice (some ⟨L, 0, none⟩) 14 (14 + x.n)) 14 (iv (x.fs ++ [s])) :=
    ⟨by simp [iv, Cf.fs], .inr ⟨L, 14 + x.n, cells, rfl, hL, hw, by omega, by unfold maxLen; omega, by omega, by rw [Nat.mul_one]; exact ht⟩⟩
  obtain ⟨v, W3, r, o3, g⟩ := run_appI W w.heap.size _ 14 _ hown w.heap.size x.A x.n x.c x.ms hx.rd (by omega) hb.size
  obtain ⟨A, c, rfl⟩ := own_form o3
  refine ⟨A, c, W3, r, ?_, hb.trans (below_row hown g hb.size), keeps_row hown g⟩
  have e : iv (x.fs ++ [s]) ++ iv x.ms = iv (x.fs ++ s :: x.ms) := by simp [iv]
  rw [← e]
  exact o3

def RowIs (x : Cf) (w : World) (e : Ending) (w' : World) : Prop :=
  ∃ A n c, e = .returned (.tuple #[.slice A n c, .int .i64 (er (may x))]) ∧ w'.ownsRow w.heap.size 3 1 (.slice A n c) n (iv (if may x = true then rowOf x else [])) ∧ Below w.heap.size w w'

set_option maxRecDepth 100000 in
set_option maxHeartbeats 2000000 in
theorem row_no (x : Cf) (w : World) (h : Has x w) (hm : may x = false) : Calls Tryd.prog 9 #[x.v] w (RowIs x w) := by
  have hb : Below w.heap.size w (w.alloc (.cells x.cells 24)) := (Below.refl _ w).alloc (Nat.le_refl _) _
  have HR := Lib.hid (h.under hb).right
  have HB := Lib.hid hb
  rw [hm] at HR
  have HM := Lib.hid hm
  clear h hb hm
  go_enter Tryd.func9, Tryd.ntmps9
  go_wp2_with fail
  refine (HR.out).mono ?_
  rintro e w1 ⟨rfl, b1⟩
  have HB1 := Lib.hid (HB.out.trans (b1.mono HB.out.size))
  clear b1 HR
  go_wp2_with fail
  go_ret2
  refine ⟨none, 0, 0, by rw [HM.out]; rfl, ?_, HB1.out⟩
  rw [HM.out]
  exact World.ownsRow_nil _ _ _ _

set_option maxRecDepth 100000 in
set_option maxHeartbeats 2000000 in
theorem row_yes (x : Cf) (w : World) (h : Has x w) (hm : may x = true) : Calls Tryd.prog 9 #[x.v] w (RowIs x w) := by
  have hb : Below w.heap.size w (w.alloc (.cells x.cells 24)) := (Below.refl _ w).alloc (Nat.le_refl _) _
  have HR := Lib.hid (h.under hb).right
  rw [hm] at HR
  have HX := Lib.hid (InBox.new x w)
  have HLi := Lib.hid h.lies
  have hn4 : x.n ≤ 4 := by have := (may_marks hm).2; rw [h.lies.len] at this; exact this
  have HM := Lib.hid hm
  clear h hb hm
  refine (callsIn_wide (n := 6)).1 ?_
  refine callsIn_of_wp_marks Tryd.func9 rfl trivial ?_ rfl
  simp only [Tryd.ntmps9, List.size_toArray, List.length_cons, List.length_nil, Nat.reduceAdd, Nat.reduceSub, Array.replicate_succ, Array.replicate_zero, List.push_toArray, List.append_toArray, List.nil_append, List.cons_append]
  gi_wp2_with (first | (refine ⟨trivial, ?_⟩; gi_at_call 22; refine (callsIn_wide.2 HR.out).mono ?_; rintro e w1 ⟨rfl, b1⟩; have HX1 := Lib.hid (HX.out.under b1); clear b1 HR HX; have hmk := run_make14 w1 x.n (by omega); obtain ⟨c0, c1, c2, c3, c4, c5, c6, c7, c8, c9, c10, c11, c12, c13, c14⟩ := HX1.out.1.conf) | (refine ⟨trivial, ?_⟩; gi_at_call 23; refine (callsIn_wide.2 (fields_any _ _)).mono ?_; rintro e w2 ⟨rfl, rfl⟩))
  have hL : w.heap.size + 1 ≤ w1.heap.size := HX1.out.1.lt
  obtain ⟨L, hLe⟩ : ∃ L, w1.heap.size = L := ⟨_, rfl⟩
  rw [hLe]
  obtain ⟨W0, hW0⟩ : ∃ W0, ((w1.alloc (.cells (Array.replicate (14 + x.n) (.int .i64 0)) 3)).alloc (.cells #[.slice (some ⟨L, 0, none⟩) 14 (14 + x.n)] 22)).alloc (.cells #[.pointer (some ⟨w.heap.size, 0, none⟩)] 46) = W0 := ⟨_, rfl⟩
  have hb01 : Below w1.heap.size w1 W0 := by rw [← hW0]; exact (((Below.refl _ w1).alloc (Nat.le_refl _) _).alloc (by simp) _).alloc (by simp; omega) _
  have hs0 : W0.heap.size = L + 1 + 1 + 1 := by rw [← hW0]; simp [hLe]
  have hX0 := HX1.out.under hb01
  have hinv : RowAt x w L [] W0 := by
    refine ⟨hX0.1, ?_, ?_, hX0.2⟩
    · rw [← hW0]
      have := (Whole.new (w1.alloc (.cells (Array.replicate (14 + x.n) (.int .i64 0)) 3)) 22 #[.slice (some ⟨L, 0, none⟩) 14 (14 + x.n)]).alloc (.cells #[.pointer (some ⟨w.heap.size, 0, none⟩)] 46)
      rwa [World.size_alloc, hLe] at this
    · rw [← hW0]
      have := ((Whole.new w1 3 (Array.replicate (14 + x.n) (.int .i64 0))).alloc (.cells #[.slice (some ⟨L, 0, none⟩) 14 (14 + x.n)] 22)).alloc (.cells #[.pointer (some ⟨w.heap.size, 0, none⟩)] 46)
      rw [hLe] at this
      rw [show rowTo x (14 + x.n) ([] : List Nat).length = _ from rowTo_none x _]
      exact this
  have hbn : W0.cell? ⟨L + 1 + 1, 0, none⟩ = some (.pointer (some ⟨w.heap.size, 0, none⟩)) := by
    rw [← hW0]
    have := (Whole.new ((w1.alloc (.cells (Array.replicate (14 + x.n) (.int .i64 0)) 3)).alloc (.cells #[.slice (some ⟨L, 0, none⟩) 14 (14 + x.n)] 22)) 46 #[.pointer (some ⟨w.heap.size, 0, none⟩)]).cell 0
    rwa [World.size_alloc, World.size_alloc, hLe] at this
  rw [hW0]
  have hL1 : w.heap.size + 1 ≤ L := by omega
  clear hW0 hX0 hb01 c0 c1 c2 c3 c4 c5 c6 c7 c8 c9 c10 c11 c12 c13 c14 hmk
  refine wpIn_range_mem (by omega) (gf := 32) (lb := #[.pointer (some ⟨L + 1 + 1, 0, none⟩)]) rfl (enters_of Tryd.func32 (by kernel_rfl) rfl) (encs := fun k : Nat => #[Value.int .i64 (k : Int), Value.pointer (some ⟨w.heap.size, k, none⟩)])
    (fields_mem 5 (L + 1 + 1) w.heap.size W0 (by omega) hbn)
    (fun h k => kpP_t h k) (fun W l o o' _ h h1 _ => kpP_b W l o o' h h1) (Below.refl _ _) (fun _ => rfl)
    (RowAt x w L) (fun _ _ => False)
    (rowAt_own _ _ _ _ (by omega)) (fun c W W' row h hg hr => h) hinv
    (fun pre k a' W => (k = pre.length ∧ k < 13) ∧ a' = { tmps := #[x.v, .pointer (some ⟨w.heap.size, 0, none⟩), .slice none 0 0, .int .i64 0, .pointer (some ⟨L + 1, 0, none⟩), .int .i64 (k : Int), .pointer (some ⟨w.heap.size, k, none⟩), x.v, .bool true, .bool false, .pointer (some ⟨w.heap.size, 14, none⟩), .slice x.A x.n x.c, .int .i64 (x.n : Int), .int .i64 (14 + (x.n : Int)), .slice (some ⟨L, 0, none⟩) 14 (14 + x.n), .func (.func 32) #[] #[.pointer (some ⟨L + 1 + 1, 0, none⟩)], .int .i64 (k : Int), .pointer (some ⟨w.heap.size, k, none⟩), undef, undef, undef, undef, undef, undef, undef, undef, undef, undef, undef, undef, undef, undef], defers := [] })
    (fun a' p X Y row hs hg hr => hs) ?assign ?body ?done ?stop
  case assign =>
    intro l pre k W K hI hOk hK
    have HOk := Lib.hid hOk
    clear hOk
    gi_wp2
    exact hK _ _ (KeepsFrom.refl _ _) kpP_refl hI ⟨HOk.out, rfl⟩
  case body =>
    rintro l pre k a' W hl hI ⟨⟨hk, hk13⟩, rfl⟩
    have hrow := hI.row
    rw [← hk] at hrow
    have hrow2 : Whole W.drew L 3 (rowTo x (14 + x.n) k) := hrow
    have HC : Hid (W.drew.cell? ⟨w.heap.size, k, none⟩ = some (.int .i64 (x.at k)) ∧ W.drew.cell? ⟨L + 1, 0, none⟩ = some (.slice (some ⟨L, 0, none⟩) 14 (14 + x.n))) :=
      Lib.hid ⟨hI.box.confK hk13, hI.lbox.cell 0⟩
    have HL := Lib.hid (fun (W' : World) (h : W'.cell? ⟨w.heap.size, k, none⟩ = some (.int .i64 (x.at k)) ∧ W'.cell? ⟨L + 1, 0, none⟩ = some (.slice (some ⟨L, 0, none⟩) 14 (14 + x.n))) => h)
    have hk13i : (k : Int) < 14 := by omega
    have HI := Lib.hid hI
    have HK := Lib.hid hk
    have HRow := Lib.hid hrow2
    clear hI hk hrow hrow2
    gi_wp2_with fail
    refine region_round_held (S := fun W' : World => W'.cell? ⟨w.heap.size, k, none⟩ = some (.int .i64 (x.at k)) ∧ W'.cell? ⟨L + 1, 0, none⟩ = some (.slice (some ⟨L, 0, none⟩) 14 (14 + x.n))) (by kernel_rfl) (by kernel_rfl) (fun ⟨_, _, h⟩ => h) ?_
    refine takeH (i := 0) (v := ?_) rfl (by kernel_rfl) (by kernel_rfl) (by kernel_rfl) (fun _ _ _ h => by first | exact h | exact h.elim) (by rfl) ?_ HC.out ?_
    rotate_left
    · intro W' hW; obtain ⟨c0, c2⟩ := HL.out W' hW; go_simp <;> with_reducible rfl
    simp only [Act.put, List.setIfInBounds_toArray, List.set_cons_zero, List.set_cons_succ]
    refine takeH (i := 1) (v := ?_) rfl (by kernel_rfl) (by kernel_rfl) (by kernel_rfl) (fun _ _ _ h => by first | exact h | exact h.elim) (by rfl) ?_ HC.out ?_
    rotate_left
    · intro W' hW; obtain ⟨c0, c2⟩ := HL.out W' hW; go_simp <;> with_reducible rfl
    simp only [Act.put, List.setIfInBounds_toArray, List.set_cons_zero, List.set_cons_succ]
    refine takeH (i := 2) (v := ?_) rfl (by kernel_rfl) (by kernel_rfl) (by kernel_rfl) (fun _ _ _ h => by first | exact h | exact h.elim) (by rfl) ?_ HC.out ?_
    rotate_left
    · intro W' hW; obtain ⟨c0, c2⟩ := HL.out W' hW; go_simp <;> with_reducible rfl
    simp only [Act.put, List.setIfInBounds_toArray, List.set_cons_zero, List.set_cons_succ]
    refine takeH (i := 3) (v := ?_) rfl (by kernel_rfl) (by kernel_rfl) (by kernel_rfl) (fun _ _ _ h => by first | exact h | exact h.elim) (by rfl) ?_ HC.out ?_
    rotate_left
    · intro W' hW; obtain ⟨c0, c2⟩ := HL.out W' hW; go_simp <;> with_reducible rfl
    simp only [Act.put, List.setIfInBounds_toArray, List.set_cons_zero, List.set_cons_succ]
    refine takeH (i := 4) (v := ?_) rfl (by kernel_rfl) (by kernel_rfl) (by kernel_rfl) (fun _ _ _ h => by first | exact h | exact h.elim) (by rfl) ?_ HC.out ?_
    rotate_left
    · intro W' hW; obtain ⟨c0, c2⟩ := HL.out W' hW; go_simp <;> with_reducible rfl
    simp only [Act.put, List.setIfInBounds_toArray, List.set_cons_zero, List.set_cons_succ]
    refine takeH (i := 5) (v := ?_) rfl (by kernel_rfl) (by kernel_rfl) (by kernel_rfl) (fun _ _ _ h => by first | exact h | exact h.elim) (by rfl) ?_ HC.out ?_
    rotate_left
    · intro W' hW; obtain ⟨c0, c2⟩ := HL.out W' hW; go_simp <;> with_reducible rfl
    simp only [Act.put, List.setIfInBounds_toArray, List.set_cons_zero, List.set_cons_succ]
    refine oneH (i := 6) rfl (by kernel_rfl) (by rfl) (fun K hK => ?_)
    have c1 : W.drew.cell? ⟨L, k, none⟩ = some (.int .i64 0) := (HRow.out.cell k).trans (rowTo_cell x hk13 (by omega))
    have c3 : W.drew.frozen? ⟨L, k, none⟩ = false := HRow.out.frozen k
    go_simp
    have HS : Hid ((W.setCell ⟨L, k, none⟩ (.int .i64 (x.at k))).drew.cell? ⟨w.heap.size, k, none⟩ = some (.int .i64 (x.at k)) ∧ (W.setCell ⟨L, k, none⟩ (.int .i64 (x.at k))).drew.cell? ⟨L + 1, 0, none⟩ = some (.slice (some ⟨L, 0, none⟩) 14 (14 + x.n))) :=
      Lib.hid ⟨(World.cell?_setCell_other W.drew ⟨L, k, none⟩ ⟨w.heap.size, k, none⟩ (.int .i64 (x.at k)) (by intro e; injection e; omega)).trans HC.out.1, (World.cell?_setCell_other W.drew ⟨L, k, none⟩ ⟨L + 1, 0, none⟩ (.int .i64 (x.at k)) (by intro e; injection e; omega)).trans HC.out.2⟩
    refine hK.out _ _ HS.out (fun _ => ?_)
    clear hK K c1 c3 HC HS HL
    refine wpAnyH_done (by kernel_rfl) ?_ _
    gi_wp2_with fail
    have hr2 := HRow.out.set k (.int .i64 (x.at k))
    rw [rowTo_step x hk13 (by omega)] at hr2
    have hbx : Whole (W.setCell ⟨L, k, none⟩ (.int .i64 (x.at k))).drew w.heap.size 24 x.cells := HI.out.box.far (p := ⟨L, k, none⟩) (by simp only; omega) _
    have hlx : Whole (W.setCell ⟨L, k, none⟩ (.int .i64 (x.at k))).drew (L + 1) 22 #[.slice (some ⟨L, 0, none⟩) 14 (14 + x.n)] := HI.out.lbox.far (p := ⟨L, k, none⟩) (by simp) _
    refine ⟨((KeepsOthers.setCell W ⟨L, k, none⟩ (.int .i64 (x.at k))).trans (KeepsOthers.drew _)).from _, (show KpP W (W.setCell ⟨L, k, none⟩ (.int .i64 (x.at k))) from kpP_set HRow.out (by decide) _), hbx, hlx, ?_, (HI.out.below.setCell (p := ⟨L, k, none⟩) (by simp only; omega) _).drew⟩
    rw [List.length_append, List.length_singleton, ← HK.out]
    exact hr2
  case done =>
    rintro D ys W hD hys hI hK
    have hrow := hI.row
    rw [hys] at hrow
    have hsz := rowTo_size x (cap := 14 + x.n) (k := 13) (by omega) (by omega)
    obtain ⟨t1, t0, tc⟩ := rowTo_skip x x.n
    have r13 := (hrow.cell 13).trans tc
    have f13 := hrow.frozen 13
    have lb := hI.lbox.cell 0
    simp only [List.getElem?_toArray, List.getElem?_cons_zero] at lb
    obtain ⟨c0, c1, c2, c3, c4, c5, c6, c7, c8, c9, c10, c11, c12, c13, c14⟩ := hI.box.conf
    clear c0 c1 c2 c3 c4 c5 c6 c7 c8 c9 c10 c11 c12
    have hDc : ∃ o, W.heap[D]? = some o ∧ o.isCells = false := ⟨_, hK, rfl⟩
    by_cases hs : x.sk = true
    · have hw2 : Whole (W.setCell ⟨L, 13, none⟩ (.int .i64 1)) L 3 ((rowTo x (14 + x.n) 13).setIfInBounds 13 (.int .i64 1)) := hrow.set 13 _
      have hb2 : Below w.heap.size w (W.setCell ⟨L, 13, none⟩ (.int .i64 1)) := hI.below.setCell (p := ⟨L, 13, none⟩) (by simp only; omega) _
      obtain ⟨A, c, W3, hrun, o3, b3, k3⟩ := row_app x w _ L _ 1 hw2 (by rw [Array.size_setIfInBounds]; exact hsz) t1 (by omega) (by omega) (HLi.out.below hb2) hb2
      have HK3 : Hid (W3.heap[D]? = some (.deferred (some []))) := Lib.hid (((KeepsOthers.setCell W ⟨L, 13, none⟩ (.int .i64 1)).trans k3).same D _ hK rfl)
      have HRun := Lib.hid hrun
      have HO := Lib.hid o3
      have HB := Lib.hid b3
      have HE : Hid (rowOf x = x.fs ++ 1 :: x.ms) := Lib.hid (by unfold rowOf; rw [hs]; rfl)
      rw [hs] at c13
      have cl : (W.setCell ⟨L, 13, none⟩ (.int .i64 1)).cell? ⟨L + 1, 0, none⟩ = some (.slice (some ⟨L, 0, none⟩) 14 (14 + x.n)) := (World.cell?_setCell_other W ⟨L, 13, none⟩ ⟨L + 1, 0, none⟩ _ (by intro e; injection e; omega)).trans lb
      have cm : (W.setCell ⟨L, 13, none⟩ (.int .i64 1)).cell? ⟨w.heap.size, 14, none⟩ = some (.slice x.A x.n x.c) := (World.cell?_setCell_other W ⟨L, 13, none⟩ ⟨w.heap.size, 14, none⟩ _ (by intro e; injection e; omega)).trans c14
      clear hw2 hb2 hrun o3 b3 k3 hK hI hys hrow hsz t1 t0 tc hs hDc
      gi_wp2_with (gi_at_builtin; refine wpListIn_app rfl _ _ _ rfl _ _ _ _ rfl rfl HRun.out ?_; clear HRun)
      refine ⟨by simp, .inl ⟨_, _, rfl, run_takeDeferred HK3.out, ?_⟩⟩
      refine ⟨.tuple #[.slice A (14 + x.n) c, .int .i64 0], by simp [results, Tryd.results9], A, 14 + x.n, c, by rw [HM.out]; rfl, ?_, ?_⟩
      · rw [if_pos HM.out, HE.out]
        exact ownsRow_putObj HO.out _ HK3.out rfl
      · exact HB.out.trans ((Below.refl _ _).grown (grownBy_putObj' W3 D (.deferred none)) HB.out.size (fun k e => by cases e; omega))
    · have hs' : x.sk = false := by simpa using hs
      obtain ⟨A, c, W3, hrun, o3, b3, k3⟩ := row_app x w _ L _ 0 hrow hsz t0 (by omega) (by omega) (HLi.out.below hI.below) hI.below
      have HK3 : Hid (W3.heap[D]? = some (.deferred (some []))) := Lib.hid (k3.same D _ hK rfl)
      have HRun := Lib.hid hrun
      have HO := Lib.hid o3
      have HB := Lib.hid b3
      have HE : Hid (rowOf x = x.fs ++ 0 :: x.ms) := Lib.hid (by unfold rowOf; rw [hs']; rfl)
      rw [hs'] at c13
      clear hrun o3 b3 k3 hK hI hys hrow hsz t1 t0 tc hs hs' hDc
      gi_wp2_with (gi_at_builtin; refine wpListIn_app rfl _ _ _ rfl _ _ _ _ rfl rfl HRun.out ?_; clear HRun)
      refine ⟨by simp, .inl ⟨_, _, rfl, run_takeDeferred HK3.out, ?_⟩⟩
      refine ⟨.tuple #[.slice A (14 + x.n) c, .int .i64 0], by simp [results, Tryd.results9], A, 14 + x.n, c, by rw [HM.out]; rfl, ?_, ?_⟩
      · rw [if_pos HM.out, HE.out]
        exact ownsRow_putObj HO.out _ HK3.out rfl
      · exact HB.out.trans ((Below.refl _ _).grown (grownBy_putObj' W3 D (.deferred none)) HB.out.size (fun k e => by cases e; omega))
  case stop =>
    rintro D c W hD h hK
    exact h.elim

set_option maxRecDepth 100000 in
theorem row_any (x : Cf) (w : World) (h : Has x w) : Calls Tryd.prog 9 #[x.v] w (RowIs x w) := by
  cases hm : may x with
  | true => exact row_yes x w h hm
  | false => exact row_no x w h hm

end Go.Proofs.YtdjieigmncoooaaDoor
