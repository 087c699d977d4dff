/-
  The walks of 'rising', 'sized' and 'Whole' of package page, where they answer yes. Conditions: those that each theorem names.
-/
import Derived.Test.YtdoaakohgmohkaaPgWithin
import Derived.Test.YtdoaakohgmohkaaPgWhole
namespace Go.Proofs.Ytdoaakohgmohkaa
open Go.RowKit Go.Shelf
attribute [local go_sem] Oper.semAt_some

def SnInR (W : World) (g : Nat) (x : Sn) : Prop := Whole W g 35 #[.int .i64 x.id, .int .i64 x.tok, .int .i64 x.ver, .int .i64 x.zone, .bool x.on, .bool x.well, .bool x.inn]

/-- What holds between two rounds. -/
structure RsAt (w : World) (pre : List Sn) (W : World) : Prop where
  res : Whole W w.heap.size 4 #[.bool false]
  bg : Whole W (w.heap.size + 1) 4 #[.bool (!pre.isEmpty)]
  la : Whole W (w.heap.size + 1 + 1) 3 #[.int .i64 (lastOf 0 pre)]
  below : Below w.heap.size w W
  sz : w.heap.size + 1 + 1 + 1 + 1 ≤ W.heap.size
set_option maxRecDepth 100000 in
theorem rsAt_own (w : World) (B : Nat) (hB : w.heap.size ≤ B) : OwnFrom B (RsAt w) := by
  intro pre W1 W2 row h hg hr
  have hr' : ∀ r, row = some r → ∃ o : Obj, W1.heap[r]? = some o ∧ o.isCells = false := fun r e => (hr r e).2
  exact ⟨h.res.turn hg hr', h.bg.turn hg hr', h.la.turn hg hr', h.below.grown hg h.below.size (fun k e => by have := (hr k e).1; omega), Nat.le_trans h.sz hg.size⟩
set_option maxRecDepth 100000 in
theorem RsAt.under {w : World} {pre : List Sn} {W W' : World} (h : RsAt w pre W) (hb : Below W.heap.size W W') : RsAt w pre W' := ⟨h.res.under hb, h.bg.under hb, h.la.under hb, h.below.trans (hb.mono h.below.size), Nat.le_trans h.sz hb.size⟩
set_option maxRecDepth 100000 in
theorem lastOf_snoc (pre : List Sn) (s : Sn) (z : Int) : lastOf z (pre ++ [s]) = s.id := by
  induction pre generalizing z with
  | nil => rfl
  | cons t pre ih => exact ih t.id
set_option maxRecDepth 100000 in
theorem lastOf_rise {pre : List Sn} {s : Sn} (h : Rising (pre ++ [s])) (hp : pre ≠ []) (z : Int) : lastOf z pre < s.id :=
  lastOf_lt hp fun u hu => (List.pairwise_append.1 h).2.2 u hu s (by simp)

/-- A slice of pages, read by a call in its own world. -/
def RdPw (w : World) (A : Option Addr) (n : Nat) (l : List PE) : Prop := RdP w (fun k => k < w.heap.size) A n l
set_option maxRecDepth 100000 in
theorem RdPw.under {w w' : World} {A : Option Addr} {n : Nat} {l : List PE} (h : RdPw w A n l) (hb : Below w.heap.size w w') : RdPw w' A n l := by
  have h2 := RdP.kept h (kpG_under (fun _ hk => hk) hb)
  refine ⟨h2.1, fun hn => ?_, fun x hx => ⟨(h2.2.2 x hx).1, fun hn => ?_⟩⟩
  · obtain ⟨b, off, e, h3, h4⟩ := h2.2.1 hn
    exact ⟨b, off, e, Nat.lt_of_lt_of_le h3 hb.size, h4⟩
  · obtain ⟨b, off, e, h3, h4⟩ := (h2.2.2 x hx).2 hn
    exact ⟨b, off, e, Nat.lt_of_lt_of_le h3 hb.size, h4⟩

set_option maxRecDepth 100000 in
set_option maxHeartbeats 2000000 in
theorem rising_yes (A : Option Addr) (n c : Nat) (l : List PE) (w : World) (hr : RdPw w A n l) (hn : n ≤ 1000) (hsm : ∀ x ∈ l, x.n ≤ 1000) (hri : Rising (joinP l)) :
    Calls Try.prog 23 #[.slice A n c] w (BoolPost true w) := by
  have HR := Lib.hid hr
  have HRi := Lib.hid hri
  clear hr hri
  refine (callsIn_wide (n := 6)).1 ?_
  refine callsIn_of_wp_marks Try.func23 rfl trivial ?_ rfl
  simp only [Try.ntmps23, List.size_toArray, List.length_cons, List.length_nil, Nat.reduceAdd, Nat.reduceSub, Array.replicate_succ, Array.replicate_zero, List.push_toArray, List.append_toArray, List.nil_append, List.cons_append]
  gi_wp2_with (refine ⟨trivial, ?_⟩; gi_at_call 21; refine (callsIn_wide.2 (within_any _ _ _ _)).mono ?_; rintro e w2 ⟨rfl, rfl⟩)
  obtain ⟨W0, hW0⟩ : ∃ W0, (((w.alloc (.cells #[.bool false] 4)).alloc (.cells #[.bool false] 4)).alloc (.cells #[.int .i64 0] 3)).alloc (.cells #[.slice A n c] 27) = W0 := ⟨_, rfl⟩
  rw [hW0]
  have hs0 : W0.heap.size = w.heap.size + 1 + 1 + 1 + 1 := by rw [← hW0]; simp
  have hb0 : Below w.heap.size w W0 := by rw [← hW0]; exact ((((Below.refl _ w).alloc (Nat.le_refl _) _).alloc (by simp) _).alloc (by simp; omega) _).alloc (by simp; omega) _
  have hi0 : Whole W0 w.heap.size 4 #[.bool false] := by rw [← hW0]; exact (((Whole.new w 4 #[.bool false]).alloc _).alloc _).alloc _
  have hi1 : Whole W0 (w.heap.size + 1) 4 #[.bool false] := by
    rw [← hW0]; have := ((Whole.new (w.alloc (.cells #[.bool false] 4)) 4 #[.bool false]).alloc (.cells #[.int .i64 0] 3)).alloc (.cells #[.slice A n c] 27); rwa [World.size_alloc] at this
  have hi2 : Whole W0 (w.heap.size + 1 + 1) 3 #[.int .i64 0] := by
    rw [← hW0]; have := (Whole.new ((w.alloc (.cells #[.bool false] 4)).alloc (.cells #[.bool false] 4)) 3 #[.int .i64 0]).alloc (.cells #[.slice A n c] 27); rwa [World.size_alloc, World.size_alloc] at this
  have hp0 : Whole W0 (w.heap.size + 1 + 1 + 1) 27 #[.slice A n c] := by
    rw [← hW0]; have := Whole.new (((w.alloc (.cells #[.bool false] 4)).alloc (.cells #[.bool false] 4)).alloc (.cells #[.int .i64 0] 3)) 27 #[.slice A n c]; rw [World.size_alloc, World.size_alloc, World.size_alloc] at this; exact this
  clear hW0
  obtain ⟨G, hG⟩ : ∃ G : Nat → Prop, G = fun k => k < w.heap.size ∨ k = w.heap.size + 1 + 1 + 1 := ⟨_, rfl⟩
  have hGl : ∀ k, G k → k < W0.heap.size := fun k hk => by rw [hG] at hk; rw [hs0]; rcases hk with hk | hk <;> omega
  have hGe : ∀ k, k = w.heap.size + 1 ∨ k = w.heap.size + 1 + 1 → ¬ G k := fun k he hk => by rw [hG] at hk; rcases hk with hk | hk <;> omega
  have hGp : G (w.heap.size + 1 + 1 + 1) := by rw [hG]; exact .inr rfl
  have hrd : RdP W0 G A n l := by
    have h2 := RdP.kept HR.out (kpG_under (fun _ hk => hk) hb0)
    refine ⟨h2.1, fun hn => ?_, fun x hx => ⟨(h2.2.2 x hx).1, fun hn => ?_⟩⟩
    · obtain ⟨b, off, e, h3, h4⟩ := h2.2.1 hn
      exact ⟨b, off, e, by rw [hG]; exact .inl h3, h4⟩
    · obtain ⟨b, off, e, h3, h4⟩ := (h2.2.2 x hx).2 hn
      exact ⟨b, off, e, by rw [hG]; exact .inl h3, h4⟩
  have HGl := Lib.hid hGl
  have HGe := Lib.hid hGe
  clear hG hGl hGe
  refine wpIn_range_mem (by omega) (gf := 27) (lb := #[.pointer (some ⟨w.heap.size + 1 + 1 + 1, 0, none⟩)]) rfl (enters_of Try.func27 (by kernel_rfl) rfl) (encs := snEnc)
    (within_mem 5 (w.heap.size + 1 + 1 + 1) G A n c l hn hsm W0 HGl.out hGp hp0 hrd)
    (fun h k => kpG_t h k) (kpG_b HGl.out) (Below.refl _ _) (fun _ => rfl)
    (RsAt w) (fun _ _ => False)
    (rsAt_own _ _ (by omega)) (fun _ _ _ _ h => h.elim) ⟨hi0, hi1, hi2, hb0, by omega⟩
    (fun pre s a' W => (pre ++ [s] <+: joinP l) ∧ ∃ g, a' = { tmps := #[.slice A n c, undef, .pointer (some ⟨w.heap.size, 0, none⟩), .pointer (some ⟨w.heap.size + 1, 0, none⟩), .pointer (some ⟨w.heap.size + 1 + 1, 0, none⟩), .pointer (some ⟨g, 0, none⟩), .slice A n c, .func (.func 27) #[] #[.pointer (some ⟨w.heap.size + 1 + 1 + 1, 0, none⟩)], .agg #[.int .i64 s.id, .int .i64 s.tok, .int .i64 s.ver, .int .i64 s.zone, .bool s.on, .bool s.well, .bool s.inn], undef, undef, undef, undef, undef, undef, undef, undef, undef], defers := [] } ∧ SnInR W g s ∧ g ≠ w.heap.size + 1)
    (fun a' p X Y row hs hg hr => by obtain ⟨hp, g, e, hb, hne⟩ := hs; exact ⟨hp, g, e, Whole.turn hb hg (fun r e => (hr r e).2), hne⟩) ?assign ?body ?done ?stop
  case assign =>
    rintro lp pre s W K hI hOk hK
    have HI := Lib.hid hI
    have HOk := Lib.hid hOk
    clear hOk hI
    unfold snEnc Sn.vs
    gi_wp2
    have hbu : Below W.heap.size W (W.alloc (.cells #[.int .i64 s.id, .int .i64 s.tok, .int .i64 s.ver, .int .i64 s.zone, .bool s.on, .bool s.well, .bool s.inn] 35)) := (Below.refl _ _).alloc (Nat.le_refl _) _
    exact hK _ _ (keepsFrom_alloc _ _ _) (kpG_under (fun k hk => Nat.lt_of_lt_of_le (HGl.out k hk) (by have := HI.out.sz; omega)) hbu) (HI.out.under hbu) ⟨HOk.out, _, rfl, Whole.new _ _ _, by have := HI.out.sz; omega⟩
  case body =>
    rintro lp pre s a' W hlp hI ⟨hpre, g, rfl, hsn, hne⟩
    have z0 := hI.bg.frozen 0
    have i0 := hI.la.cell 0
    have y0 := hI.la.frozen 0
    have s0 := hsn.cell 0
    have HI := Lib.hid hI
    have HS := Lib.hid hsn
    have hri : Rising (pre ++ [s]) := List.Pairwise.sublist hpre.sublist HRi.out
    have HRs := Lib.hid hri
    have e0 := hI.bg.cell 0
    have hx := (hsn.far (p := ⟨w.heap.size + 1, 0, none⟩) hne (.bool true)).cell 0
    have hl := (hI.la.far (p := ⟨w.heap.size + 1, 0, none⟩) (by simp) (.bool true)).cell 0
    have hlf := (hI.la.far (p := ⟨w.heap.size + 1, 0, none⟩) (by simp) (.bool true)).frozen 0
    simp only [List.getElem?_toArray, List.getElem?_cons_zero] at i0 s0 e0 hx hl
    have h1 := HI.out.res.far (p := ⟨w.heap.size + 1, 0, none⟩) (by simp) (.bool true)
    have HF : Hid (RsAt w (pre ++ [s]) (((W.setCell ⟨w.heap.size + 1, 0, none⟩ (.bool true)).setCell ⟨w.heap.size + 1 + 1, 0, none⟩ (.int .i64 s.id)).drew)) := by
      refine Lib.hid ⟨?_, ?_, ?_, ?_, ?_⟩
      · exact (HI.out.res.far (p := ⟨w.heap.size + 1, 0, none⟩) (by simp) (.bool true)).far (p := ⟨w.heap.size + 1 + 1, 0, none⟩) (by simp; omega) (.int .i64 s.id)
      · have := (HI.out.bg.set 0 (.bool true)).far (p := ⟨w.heap.size + 1 + 1, 0, none⟩) (by simp) (.int .i64 s.id)
        have e : (!(pre ++ [s]).isEmpty) = true := by simp
        rw [e]; exact this
      · rw [lastOf_snoc]; exact (HI.out.la.far (p := ⟨w.heap.size + 1, 0, none⟩) (by simp) (.bool true)).set 0 (.int .i64 s.id)
      · exact ((HI.out.below.setCell (p := ⟨w.heap.size + 1, 0, none⟩) (by simp) (.bool true)).setCell (p := ⟨w.heap.size + 1 + 1, 0, none⟩) (by simp; omega) (.int .i64 s.id)).drew
      · have := HI.out.sz; simpa using this
    have HFk : Hid (KpG G W (((W.setCell ⟨w.heap.size + 1, 0, none⟩ (.bool true)).setCell ⟨w.heap.size + 1 + 1, 0, none⟩ (.int .i64 s.id)).drew)) :=
      Lib.hid (kpG_t (kpG_t (kpG_set _ 0 (HGe.out _ (.inl rfl)) (.bool true)) (kpG_set _ 0 (HGe.out _ (.inr rfl)) (.int .i64 s.id))) ⟨Nat.le_refl _, fun _ _ => rfl⟩)
    clear hI hsn hpre hri h1
    have hmix : Try.prog.follows .mixedOrders = true := by kernel_rfl
    cases pre with
    | nil =>
      simp only [List.isEmpty_nil, Bool.not_true] at e0
      gi_wp2_with fail
      gi_region_with_o (fail)
      all_goals gi_wp2
      all_goals
        refine ⟨(((KeepsOthers.setCell _ _ _).trans (KeepsOthers.setCell _ _ _)).trans (KeepsOthers.drew _)).from _, ?_, HF.out⟩
        exact HFk.out
    | cons p0 pre =>
      simp only [List.isEmpty_cons, Bool.not_false] at e0
      obtain ⟨z, hz⟩ : ∃ z, lastOf 0 (p0 :: pre) = z := ⟨_, rfl⟩
      have hlt : z < s.id := by rw [← hz]; exact lastOf_rise HRs.out (by simp) 0
      rw [hz] at i0 hl
      have dle : decide (s.id ≤ z) = false := decide_eq_false (by omega)
      clear hz
      gi_wp2_with fail
      gi_region_with_o (fail)
      all_goals gi_wp2
      all_goals
        refine ⟨(((KeepsOthers.setCell _ _ _).trans (KeepsOthers.setCell _ _ _)).trans (KeepsOthers.drew _)).from _, ?_, HF.out⟩
        exact HFk.out
  case done =>
    rintro D ys W hD rfl hI hK
    have i0 := hI.res.cell 0
    have y0 := hI.res.frozen 0
    simp only [List.getElem?_toArray, List.getElem?_cons_zero] at i0
    have HI := Lib.hid hI
    have HK := Lib.hid hK
    clear hI hK
    gi_wp2_with fail
    have r1 := HI.out.res.set 0 (.bool true)
    have hb := HI.out.below.setCell (p := ⟨w.heap.size, 0, none⟩) (Nat.le_refl _) (.bool true)
    have hK1 : (W.setCell ⟨w.heap.size, 0, none⟩ (.bool true)).heap[D]? = some (.deferred (some [])) := (KeepsOthers.setCell _ _ _).same D _ HK.out rfl
    generalize W.setCell ⟨w.heap.size, 0, none⟩ (.bool true) = W1 at *
    have hg' := grownBy_putObj' W1 D (.deferred none)
    have hr' : ∀ r, (some D) = some r → ∃ o : Obj, W1.heap[r]? = some o ∧ o.isCells = false := fun r e => by cases e; exact ⟨_, hK1, rfl⟩
    have q1 := (r1.turn hg' hr').cell 0
    simp at q1
    refine ⟨by simp, .inl ⟨_, _, rfl, run_takeDeferred hK1, ?_⟩⟩
    refine ⟨.bool true, by simp [results, Try.results23, go_sem, q1], rfl, ?_⟩
    exact hb.trans ((Below.refl _ _).grown hg' hb.size (fun k e => by cases e; omega))
  case stop => exact fun _ _ _ _ h => h.elim

/-- Where 'sized' stands. -/
def SzAt (A : Option Addr) (n c : Nat) (w : World) (a' : Act) (w' : World) : Prop :=
  ∃ (i : Nat) (v : Int) (u5 u6 u7 u8 u9 u10 u11 u12 u13 u14 u15 u16 u17 u18 u19 u20 u21 u22 u23 u24 u25 u26 u27 u28 u29 u30 : Value), a' = { tmps := #[.slice A n c, undef, .bool false, .int .i64 (i : Int), .int .i64 v, u5, u6, u7, u8, u9, u10, u11, u12, u13, u14, u15, u16, u17, u18, u19, u20, u21, u22, u23, u24, u25, u26, u27, u28, u29, u30], defers := [] } ∧ i ≤ n ∧ (i < n → v = 1) ∧ w' = w

set_option maxRecDepth 100000 in
set_option maxHeartbeats 2000000 in
theorem sized_yes (A : Option Addr) (n c : Nat) (l : List PE) (w : World) (hr : RdPw w A n l) (hn : n ≤ 1000) (hok : ∀ (i : Nat) (x : PE), l[i]? = some x → x.n ≤ 3 ∧ (i + 1 < n → 1 ≤ x.n)) :
    Calls Try.prog 22 #[.slice A n c] w (BoolPost true w) := by
  have HR := Lib.hid hr
  have HO := Lib.hid hok
  clear hr hok
  go_enter Try.func22, Try.ntmps22
  go_wp2_with fail
  refine wp_scope_back_behind 0 (SzAt A n c w) (fun a' _ => n - (intOf (a'.tmps.getD 3 undef)).toNat) rfl ?ahead (fun a' w' hJ' => ?pass)
  case ahead =>
    go_wp2_with fail
    exact ⟨0, 1, _, _, _, _, _, _, _, _, _, _, _, _, _, _, _, _, _, _, _, _, _, _, _, _, _, _, rfl, Nat.zero_le _, fun _ => rfl, rfl⟩
  case pass =>
    obtain ⟨i, v, u5, u6, u7, u8, u9, u10, u11, u12, u13, u14, u15, u16, u17, u18, u19, u20, u21, u22, u23, u24, u25, u26, u27, u28, u29, u30, rfl, hle, hv, rfl⟩ := hJ'
    by_cases hlt : i < n
    rotate_left
    · have hne : ((i : Int) == (n : Int)) = true := by simp; omega
      clear hlt hv hle
      go_wp2_with fail
      simp only [Exit.jump]
      go_ret
      exact ⟨rfl, Below.refl _ _⟩
    · have hne : ((i : Int) == (n : Int)) = false := by simp; omega
      have hv1 := hv hlt
      subst hv1
      have hiL : (i : Int) < (n : Int) := by omega
      obtain ⟨x, hx⟩ : ∃ x, l[i]? = some x := ⟨_, List.getElem?_eq_getElem (by rw [HR.out.1]; exact hlt)⟩
      obtain ⟨b, off, rfl, hb, hc⟩ := HR.out.2.1 (by omega)
      have p0 := hc i x hx
      obtain ⟨h3, h1⟩ := HO.out i x hx
      have HLt := Lib.hid hlt
      obtain ⟨Ax, nx, cx, ps⟩ := x
      simp only at p0 h3 h1
      have d3 : decide ((3 : Int) < (nx : Int)) = false := by simp; omega
      have H1 := Lib.hid h1
      have H3 := Lib.hid h3
      clear hc hx hlt hb hv h1 h3
      by_cases hl : i + 1 = n
      · have e4 : ((i : Int) == (n : Int) - 1) = true := by simp; omega
        have d1 : decide ((nx : Int) < 0) = false := by simp
        have HL := Lib.hid hl
        clear hl
        go_wp2_with fail
        have el : ((i : Int) + 1) = ((i + 1 : Nat) : Int) := by simp
        rw [el]
        go_step3
        exact ⟨rfl, ⟨i + 1, 0, _, _, _, _, _, _, _, _, _, _, _, _, _, _, _, _, _, _, _, _, _, _, _, _, _, _, rfl, by have := HL.out; omega, fun h => by have := HL.out; omega, rfl⟩, by have := HLt.out; simp [intOf]; omega⟩
      · have e4 : ((i : Int) == (n : Int) - 1) = false := by simp; omega
        have d1 : decide ((nx : Int) < 1) = false := by have := H1.out (by omega); simp; omega
        have HL := Lib.hid hl
        clear hl
        go_wp2_with fail
        have el : ((i : Int) + 1) = ((i + 1 : Nat) : Int) := by simp
        rw [el]
        go_step3
        exact ⟨rfl, ⟨i + 1, 1, _, _, _, _, _, _, _, _, _, _, _, _, _, _, _, _, _, _, _, _, _, _, _, _, _, _, rfl, by have := HLt.out; omega, fun _ => rfl, rfl⟩, by have := HLt.out; simp [intOf]; omega⟩

set_option maxRecDepth 100000 in
set_option maxHeartbeats 1000000 in
theorem whole_yes (A : Option Addr) (n c : Nat) (l : List PE) (w : World) (hr : RdPw w A n l) (hn : n ≤ 1000) (hok : ∀ (i : Nat) (x : PE), l[i]? = some x → x.n ≤ 3 ∧ (i + 1 < n → 1 ≤ x.n)) (hri : Rising (joinP l)) :
    Calls Try.prog 12 #[.slice A n c] w (BoolPost true w) := by
  have HS := Lib.hid (sized_yes A n c l w hr hn hok)
  have HR := Lib.hid (fun (W : World) (hb : Below w.heap.size w W) => rising_yes A n c l W (hr.under hb) hn (fun x hx => by obtain ⟨i, hi⟩ := List.getElem?_of_mem hx; have := (hok i x hi).1; omega) hri)
  clear hr hok hri
  go_enter Try.func12, Try.ntmps12
  go_wp2_with fail
  refine HS.out.mono ?_
  rintro e w2 ⟨rfl, b2⟩
  have HB := Lib.hid b2
  have HR2 := Lib.hid (HR.out w2 b2)
  clear b2 HR HS
  go_wp2_with fail
  refine HR2.out.mono ?_
  rintro e w3 ⟨rfl, b3⟩
  have HB3 := Lib.hid (HB.out.trans (b3.mono HB.out.size))
  clear b3 HR2
  go_wp2_with fail
  go_ret
  exact ⟨rfl, HB3.out⟩

end Go.Proofs.Ytdoaakohgmohkaa
