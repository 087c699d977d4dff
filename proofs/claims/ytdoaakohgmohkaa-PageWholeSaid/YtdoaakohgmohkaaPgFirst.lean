/-
  The walk of 'first' of package page: the page of what is shown, behind an id, and whether there is more. Conditions: those that each theorem names.
-/
import Derived.Test.YtdoaakohgmohkaaPgShown
import Derived.Test.YtdoaakohgmohkaaPgOne
namespace Go.Proofs.Ytdoaakohgmohkaa
open Go.RowKit Go.Shelf
attribute [local go_sem] Oper.semAt_some

set_option maxRecDepth 100000 in
theorem restOf_snoc (pre : List Sn) (x : Sn) (b : Int) : restOf (pre ++ [x]) b = restOf pre b ++ if b < x.id then [x] else [] := by
  unfold restOf
  rw [List.filter_append]
  by_cases h : b < x.id <;> simp [h]
set_option maxRecDepth 100000 in
theorem page_more {S pre : List Sn} {x : Sn} {b : Int} (h : pre ++ [x] <+: S) (h3 : (restOf pre b).length = 3) (hx : b < x.id) : pageOf S b = restOf pre b ∧ moreOf S b = true := by
  obtain ⟨t, rfl⟩ := h
  have e : restOf (pre ++ [x] ++ t) b = restOf pre b ++ (x :: restOf t b) := by
    unfold restOf
    rw [List.filter_append, List.filter_append]
    simp [hx]
  unfold pageOf moreOf
  rw [e]
  refine ⟨?_, ?_⟩
  · rw [← h3, List.take_left]
  · rw [List.length_append, h3, List.length_cons]; simp
set_option maxRecDepth 100000 in
theorem page_all {S : List Sn} {b : Int} (h3 : (restOf S b).length ≤ 3) : pageOf S b = restOf S b ∧ moreOf S b = false := by
  unfold pageOf moreOf
  exact ⟨List.take_of_length_le h3, by simp; omega⟩

/-- A row of what is shown in a block of its own. -/
def SnIn (W : World) (g : Nat) (x : Sn) : Prop := Whole W g 35 #[.int .i64 x.id, .int .i64 x.tok, .int .i64 x.ver, .int .i64 x.zone, .bool x.on, .bool x.well, .bool x.inn]

/-- What holds between two rounds. -/
structure FsAt (w : World) (b : Int) (pre : List Sn) (W : World) : Prop where
  few : (restOf pre b).length ≤ 3
  row : ∃ A c, Whole W (w.heap.size + 1) 28 #[.slice A (restOf pre b).length c] ∧ W.ownsRow (w.heap.size + 1 + 1 + 1) 35 7 (.slice A (restOf pre b).length c) (restOf pre b).length (flatN (restOf pre b))
  bi : Whole W w.heap.size 3 #[.int .i64 b]
  bb : Whole W (w.heap.size + 1 + 1) 4 #[.bool false]
  below : Below w.heap.size w W
  sz : w.heap.size + 1 + 1 + 1 ≤ W.heap.size
set_option maxRecDepth 100000 in
theorem fsAt_own (w : World) (b : Int) (B : Nat) (hB : w.heap.size ≤ B) : OwnFrom B (FsAt w b) := by
  intro pre W1 W2 row h hg hr
  have hr' : ∀ r, row = some r → ∃ o : Obj, W1.heap[r]? = some o ∧ o.isCells = false := fun r e => (hr r e).2
  obtain ⟨A, c, h1, h2⟩ := h.row
  exact ⟨h.few, ⟨A, c, h1.turn hg hr', own_turn h2 hg hr'⟩, h.bi.turn hg hr', h.bb.turn hg hr', h.below.grown hg h.below.size (fun k e => by have := (hr k e).1; omega), Nat.le_trans h.sz hg.size⟩
set_option maxRecDepth 100000 in
theorem FsAt.under {w : World} {b : Int} {pre : List Sn} {W W' : World} (h : FsAt w b pre W) (hb : Below W.heap.size W W') : FsAt w b pre W' := by
  obtain ⟨A, c, h1, h2⟩ := h.row
  exact ⟨h.few, ⟨A, c, h1.under hb, own_under h2 hb⟩, h.bi.under hb, h.bb.under hb, h.below.trans (hb.mono h.below.size), Nat.le_trans h.sz hb.size⟩

/-- Where the loop is left: there is more. -/
def FsEnd (w : World) (S : List Sn) (b : Int) (c : Code) (W : World) : Prop := c = .ret ∧ moreOf S b = true ∧
  (∃ A c', Whole W (w.heap.size + 1) 28 #[.slice A (pageOf S b).length c'] ∧ W.ownsRow (w.heap.size + 1 + 1 + 1) 35 7 (.slice A (pageOf S b).length c') (pageOf S b).length (flatN (pageOf S b))) ∧
  Whole W (w.heap.size + 1 + 1) 4 #[.bool true] ∧ Below w.heap.size w W
set_option maxRecDepth 100000 in
theorem fsEnd_own (w : World) (S : List Sn) (b : Int) (B : Nat) (hB : w.heap.size ≤ B) : OwnFrom B (FsEnd w S b) := by
  rintro c W1 W2 row ⟨h0, h1, ⟨A, c', h2, h3⟩, h4, h5⟩ hg hr
  have hr' : ∀ r, row = some r → ∃ o : Obj, W1.heap[r]? = some o ∧ o.isCells = false := fun r e => (hr r e).2
  exact ⟨h0, h1, ⟨A, c', h2.turn hg hr', own_turn h3 hg hr'⟩, h4.turn hg hr', h5.grown hg h5.size (fun k e => by have := (hr k e).1; omega)⟩

/-- What comes of it: the page, of one's own, and whether there is more. -/
def PagePost (S : List Sn) (b : Int) (w : World) (e : Ending) (w' : World) : Prop :=
  ∃ A c, e = .returned (.tuple #[.slice A (pageOf S b).length c, .bool (moreOf S b)]) ∧ w'.ownsRow w.heap.size 35 7 (.slice A (pageOf S b).length c) (pageOf S b).length (flatN (pageOf S b)) ∧ Below w.heap.size w w'

set_option maxRecDepth 100000 in
set_option maxHeartbeats 2000000 in
theorem first_any (Bn : Nat) (A : Option Addr) (n c : Nat) (x : Cw) (b : Int) (w : World) (hr : RdX w w.heap.size A n x.l) (hn : n ≤ 1000) (hC : Whole w Bn 24 #[.slice A n c, .int .i64 x.fl, .int .i64 x.dr, .int .i64 x.nw, .bool x.tg]) :
    Calls Try.prog 19 #[.func (.func 25) #[] #[.pointer (some ⟨Bn, 0, none⟩)], .int .i64 b] w (PagePost (shown x.l) b w) := by
  have HR := Lib.hid hr
  have HC := Lib.hid hC
  have hBn := hC.lt
  have HBn := Lib.hid hBn
  clear hr hC
  refine (callsIn_wide (n := 6)).1 ?_
  refine callsIn_of_wp_marks Try.func19 rfl trivial ?_ rfl
  simp only [Try.ntmps19, List.size_toArray, List.length_cons, List.length_nil, Nat.reduceAdd, Nat.reduceSub, Array.replicate_succ, Array.replicate_zero, List.push_toArray, List.append_toArray, List.nil_append, List.cons_append]
  gi_wp2_with fail
  obtain ⟨W0, hW0⟩ : ∃ W0, ((w.alloc (.cells #[.int .i64 b] 3)).alloc (.cells #[.slice none 0 0] 28)).alloc (.cells #[.bool false] 4) = W0 := ⟨_, rfl⟩
  rw [hW0]
  have hs0 : W0.heap.size = w.heap.size + 1 + 1 + 1 := by rw [← hW0]; simp
  have hb0 : Below w.heap.size w W0 := by rw [← hW0]; exact (((Below.refl _ w).alloc (Nat.le_refl _) _).alloc (by simp) _).alloc (by simp; omega) _
  have hinv : FsAt w b [] W0 := by
    refine ⟨Nat.zero_le _, ⟨none, 0, ?_, World.ownsRow_nil _ _ _ _⟩, ?_, ?_, hb0, by omega⟩
    · rw [← hW0]; have := (Whole.new (w.alloc (.cells #[.int .i64 b] 3)) 28 #[.slice none 0 0]).alloc (.cells #[.bool false] 4); rwa [World.size_alloc] at this
    · rw [← hW0]; exact ((Whole.new w 3 #[.int .i64 b]).alloc _).alloc _
    · rw [← hW0]; have := Whole.new ((w.alloc (.cells #[.int .i64 b] 3)).alloc (.cells #[.slice none 0 0] 28)) 4 #[.bool false]; simpa using this
  clear hW0
  refine wpIn_range_mem (by omega) (gf := 25) (lb := #[.pointer (some ⟨Bn, 0, none⟩)]) rfl (enters_of Try.func25 (by kernel_rfl) rfl) (encs := snEnc)
    (shown_mem 5 Bn w.heap.size A n c x.fl x.dr x.nw x.tg x.l hn W0 (by omega) (HC.out.under hb0) (HR.out.below hb0))
    (fun h k => kpB_t h k) (kpB_b (by omega) (by omega)) (Below.refl _ _) (fun _ => rfl)
    (FsAt w b) (FsEnd w (shown x.l) b)
    (fsAt_own _ _ _ (by omega)) (fsEnd_own _ _ _ _ (by omega)) hinv
    (fun pre s a' W => (pre ++ [s] <+: shown x.l) ∧ ∃ g, a' = { tmps := #[.func (.func 25) #[] #[.pointer (some ⟨Bn, 0, none⟩)], .int .i64 b, undef, .pointer (some ⟨w.heap.size, 0, none⟩), .pointer (some ⟨w.heap.size + 1, 0, none⟩), .pointer (some ⟨w.heap.size + 1 + 1, 0, none⟩), .pointer (some ⟨g, 0, none⟩), .func (.func 25) #[] #[.pointer (some ⟨Bn, 0, none⟩)], .agg #[.int .i64 s.id, .int .i64 s.tok, .int .i64 s.ver, .int .i64 s.zone, .bool s.on, .bool s.well, .bool s.inn], undef, undef, undef, undef, undef, undef, undef, undef, undef, undef, undef, undef, undef], defers := [] } ∧ SnIn W g s)
    (fun a' p X Y row hs hg hr => ⟨hs.1, by obtain ⟨g, e, hb⟩ := hs.2; exact ⟨g, e, Whole.turn hb hg (fun r e => (hr r e).2)⟩⟩) ?assign ?body ?done ?stop
  case assign =>
    rintro lp pre s W K hI hOk hK
    have HOk := Lib.hid hOk
    have HI := Lib.hid hI
    clear hOk hI
    unfold snEnc Sn.vs
    gi_wp2
    have hbu : Below W.heap.size W (W.alloc (.cells #[.int .i64 s.id, .int .i64 s.tok, .int .i64 s.ver, .int .i64 s.zone, .bool s.on, .bool s.well, .bool s.inn] 35)) := (Below.refl _ _).alloc (Nat.le_refl _) _
    exact hK _ _ (keepsFrom_alloc _ _ _) (kpB_under hbu HI.out.below.size (Nat.lt_of_lt_of_le HBn.out HI.out.below.size)) (HI.out.under hbu) ⟨HOk.out, _, rfl, Whole.new _ _ _⟩
  case body =>
    rintro lp pre s a' W hlp hI ⟨hpre, g, rfl, hsn⟩
    obtain ⟨A1, c1, hr1, ho1⟩ := hI.row
    have hfew := hI.few
    obtain ⟨k, hk⟩ : ∃ k, (restOf pre b).length = k := ⟨_, rfl⟩
    rw [hk] at hr1 ho1 hfew
    have i0 := hI.bi.cell 0
    have s0 := hsn.cell 0
    simp only [List.getElem?_toArray, List.getElem?_cons_zero] at i0 s0
    have HI := Lib.hid hI
    have HS := Lib.hid hsn
    have HP := Lib.hid hpre
    have HK := Lib.hid hk
    have HR1 := Lib.hid hr1
    have HO1 := Lib.hid ho1
    clear hI hpre hk ho1
    by_cases hle : s.id ≤ b
    · have dle : decide (s.id ≤ b) = true := decide_eq_true hle
      have HE : Hid (restOf (pre ++ [s]) b = restOf pre b) := Lib.hid (by rw [restOf_snoc, if_neg (by omega), List.append_nil])
      clear hle
      gi_wp2_with fail
      exact ⟨KeepsFrom.refl _ _, kpB_refl, by rw [HE.out]; exact HI.out.few, by rw [HE.out]; exact HI.out.row, HI.out.bi, HI.out.bb, HI.out.below, HI.out.sz⟩
    · have dle : decide (s.id ≤ b) = false := decide_eq_false hle
      have HE : Hid (restOf (pre ++ [s]) b = restOf pre b ++ [s]) := Lib.hid (by rw [restOf_snoc, if_pos (by omega)])
      have HLe := Lib.hid hle
      clear hle
      have r0 := hr1.cell 0
      have f0 := hr1.frozen 0
      have b0 := HI.out.bb.cell 0
      have g0 := HI.out.bb.frozen 0
      simp only [List.getElem?_toArray, List.getElem?_cons_zero] at r0 b0
      clear hr1
      by_cases h3 : k = 3
      · subst h3
        gi_wp2_with fail
        obtain ⟨p1, p2⟩ := page_more HP.out HK.out (show b < s.id by have := HLe.out; omega)
        have e1 : (pageOf (shown x.l) b).length = 3 := by rw [p1, HK.out]
        have h1 := HR1.out.set 0 (.slice A1 3 c1)
        have h2 := h1.far (p := ⟨w.heap.size + 1 + 1, 0, none⟩) (by simp) (.bool true)
        have h3 := (HI.out.bb.far (p := ⟨w.heap.size + 1, 0, none⟩) (by simp) (.slice A1 3 c1)).set 0 (.bool true)
        refine ⟨keepsFrom_t ((KeepsOthers.setCell _ _ _).from _) ((KeepsOthers.setCell _ _ _).from _), rfl, p2, ⟨A1, c1, ?_, ?_⟩, h3, ?_⟩
        · rw [e1]; exact h2
        · rw [e1, p1]; exact own_set (own_set HO1.out (by omega) _) (by omega) _
        · exact (HI.out.below.setCell (p := ⟨w.heap.size + 1, 0, none⟩) (by simp) _).setCell (p := ⟨w.heap.size + 1 + 1, 0, none⟩) (by simp; omega) _
      · have e3 : ((k : Int) == 3) = false := by simp; omega
        have s1_ := HS.out.cell 1
        have s2_ := HS.out.cell 2
        have s3_ := HS.out.cell 3
        have s4_ := HS.out.cell 4
        have s5_ := HS.out.cell 5
        have s6_ := HS.out.cell 6
        simp only [List.getElem?_toArray, List.getElem?_cons_zero, List.getElem?_cons_succ] at s1_ s2_ s3_ s4_ s5_ s6_
        obtain ⟨A2, c2, W2, hrun, ho2, hg2⟩ := run_oneN W (w.heap.size + 1 + 1 + 1) A1 k c1 (restOf pre b) HO1.out s (by omega) HI.out.sz W.heap.size rfl
        have hgw := (Whole.new W 35 #[.int .i64 s.id, .int .i64 s.tok, .int .i64 s.ver, .int .i64 s.zone, .bool s.on, .bool s.well, .bool s.inn])
        have hbu : Below W.heap.size W (W.alloc (.cells #[.int .i64 s.id, .int .i64 s.tok, .int .i64 s.ver, .int .i64 s.zone, .bool s.on, .bool s.well, .bool s.inn] 35)) := (Below.refl _ _).alloc (Nat.le_refl _) _
        have hb2 : Below (w.heap.size + 1 + 1 + 1) W W2 := (hbu.mono HI.out.sz).trans (below_row (own_under HO1.out hbu) hg2 (by have := HI.out.sz; simp; omega))
        have hk2 : KeepsFrom (w.heap.size + 1 + 1 + 1) W W2 := keepsFrom_t (keepsFrom_alloc _ _ _) ((keeps_row (own_under HO1.out hbu) hg2).from _)
        have HRun := Lib.hid hrun
        have HO2 := Lib.hid ho2
        have HB2 := Lib.hid hb2
        have HK2 := Lib.hid hk2
        have r2 := HR1.out.below hb2 (by omega)
        have b2 := HI.out.bb.below hb2 (by omega)
        have i2 := HI.out.bi.below hb2 (by omega)
        have HR2 := Lib.hid r2
        have HBB2 := Lib.hid b2
        have HBI2 := Lib.hid i2
        have q0 := r2.cell 0
        have f2 := r2.frozen 0
        simp only [List.getElem?_toArray, List.getElem?_cons_zero] at q0
        clear hrun ho2 hg2 hgw hbu hb2 hk2 r2 b2 i2
        gi_wp2_with (refine wpListIn_app (by rfl) _ _ 28 rfl _ _ _ W2 (by rfl) (by rfl) HRun.out ?_)
        have hk1 : (restOf (pre ++ [s]) b).length = k + 1 := by rw [HE.out, List.length_append, HK.out]; rfl
        refine ⟨keepsFrom_t HK2.out ((KeepsOthers.setCell _ _ _).from _), ?_, ?_, ⟨A2, c2, ?_, ?_⟩, ?_, ?_, ?_, ?_⟩
        · exact kpB_t ⟨HB2.out.mono (by omega), HB2.out.block _ (by have := HBn.out; omega)⟩ (kpB_setc W2 (by omega) (by have := HBn.out; omega) 0 _)
        · rw [hk1]; omega
        · rw [hk1]; exact HR2.out.set 0 _
        · rw [hk1, HE.out]; exact own_set HO2.out (by omega) _
        · exact HBI2.out.far (p := ⟨w.heap.size + 1, 0, none⟩) (by simp) _
        · exact HBB2.out.far (p := ⟨w.heap.size + 1, 0, none⟩) (by simp) _
        · exact (HI.out.below.trans (HB2.out.mono (by omega))).setCell (p := ⟨w.heap.size + 1, 0, none⟩) (by simp) _
        · have := HI.out.sz; have := HB2.out.size; simp; omega
  case done =>
    rintro D ys W hD rfl hI hK
    obtain ⟨A1, c1, hr1, ho1⟩ := hI.row
    obtain ⟨p1, p2⟩ := page_all hI.few
    obtain ⟨k, hk⟩ : ∃ k, (restOf (shown x.l) b).length = k := ⟨_, rfl⟩
    rw [hk] at hr1 ho1
    have r0 := hr1.cell 0
    have f0 := hr1.frozen 0
    have b0 := hI.bb.cell 0
    have g0 := hI.bb.frozen 0
    simp only [List.getElem?_toArray, List.getElem?_cons_zero] at r0 b0
    have HP := Lib.hid p1
    have HM := Lib.hid p2
    have HI := Lib.hid hI
    have HK := Lib.hid hK
    have HKk := Lib.hid hk
    have HR1 := Lib.hid hr1
    have HO1 := Lib.hid ho1
    clear hI hK hr1 ho1 p1 p2 hk
    gi_wp2_with fail
    have u1 := (HR1.out.set 0 (.slice A1 k c1)).far (p := ⟨w.heap.size + 1 + 1, 0, none⟩) (by simp) (.bool false)
    have u2 := (HI.out.bb.far (p := ⟨w.heap.size + 1, 0, none⟩) (by simp) (.slice A1 k c1)).set 0 (.bool false)
    have u3 := own_set (own_set HO1.out (b := w.heap.size + 1) (off := 0) (by omega) (.slice A1 k c1)) (b := w.heap.size + 1 + 1) (off := 0) (by omega) (.bool false)
    have u4 := (HI.out.below.setCell (p := ⟨w.heap.size + 1, 0, none⟩) (by simp) (.slice A1 k c1)).setCell (p := ⟨w.heap.size + 1 + 1, 0, none⟩) (by simp; omega) (.bool false)
    have hK1 : ((W.setCell ⟨w.heap.size + 1, 0, none⟩ (.slice A1 k c1)).setCell ⟨w.heap.size + 1 + 1, 0, none⟩ (.bool false)).heap[D]? = some (.deferred (some [])) := (KeepsOthers.setCell _ _ _).same D _ ((KeepsOthers.setCell _ _ _).same D _ HK.out rfl) rfl
    have e1 : (pageOf (shown x.l) b).length = k := by rw [HP.out, HKk.out]
    generalize (W.setCell ⟨w.heap.size + 1, 0, none⟩ (.slice A1 k c1)).setCell ⟨w.heap.size + 1 + 1, 0, none⟩ (.bool false) = W1 at *
    have hg' := grownBy_putObj' W1 D (.deferred none)
    have hr' : ∀ r, (some D) = some r → ∃ o : Obj, W1.heap[r]? = some o ∧ o.isCells = false := fun r e => by cases e; exact ⟨_, hK1, rfl⟩
    have q1 := (u1.turn hg' hr').cell 0
    have q2 := (u2.turn hg' hr').cell 0
    simp at q1 q2
    refine ⟨by simp, .inl ⟨_, _, rfl, run_takeDeferred hK1, ?_⟩⟩
    refine ⟨.tuple #[.slice A1 k c1, .bool false], by simp [results, Try.results19, go_sem, q1, q2], A1, c1, by rw [e1, HM.out], ?_, ?_⟩
    · rw [e1, HP.out]; exact own_weaker (own_turn u3 hg' hr') (by omega)
    · exact u4.trans ((Below.refl _ _).grown hg' u4.size (fun k e => by cases e; omega))
  case stop =>
    rintro D c' W hD ⟨rfl, hm, ⟨A1, c1, hr1, ho1⟩, hbb, hb⟩ hK
    have HM := Lib.hid hm
    have HK := Lib.hid hK
    have HR1 := Lib.hid hr1
    have HO1 := Lib.hid ho1
    have HBB := Lib.hid hbb
    have HB := Lib.hid hb
    clear hm hK hr1 ho1 hbb hb
    gi_wp2_with fail
    have hg' := grownBy_putObj' W D (.deferred none)
    have hr' : ∀ r, (some D) = some r → ∃ o : Obj, W.heap[r]? = some o ∧ o.isCells = false := fun r e => by cases e; exact ⟨_, HK.out, rfl⟩
    have q1 := (HR1.out.turn hg' hr').cell 0
    have q2 := (HBB.out.turn hg' hr').cell 0
    simp at q1 q2
    refine ⟨by simp, .inl ⟨_, _, rfl, run_takeDeferred HK.out, ?_⟩⟩
    refine ⟨.tuple #[.slice A1 (pageOf (shown x.l) b).length c1, .bool true], by simp [results, Try.results19, go_sem, q1, q2], A1, c1, by rw [HM.out], ?_, ?_⟩
    · exact own_weaker (own_turn HO1.out hg' hr') (by omega)
    · exact HB.out.trans ((Below.refl _ _).grown hg' HB.out.size (fun k e => by cases e; omega))

end Go.Proofs.Ytdoaakohgmohkaa
