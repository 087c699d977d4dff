/-
  The walk of the statement 'LogParts': it answers true, and nothing that was there turns. Conditions: none.
-/
import Derived.Test.YtbkfpghpfaemeaaJ10
namespace Go.Proofs.Ytbkfpghpfaemeaa
open Go.RowKit Go.Shelf

theorem addD_okP {L : List PR} {D : Dk} (h : D.Ok) : (addD L D).1.Ok := by
  unfold addD
  split
  · split
    · rename_i hf
      have h1 := h.syn
      refine ⟨by simp; omega, by simpa using hf, h.room, fun x hx => ?_⟩
      rcases List.mem_append.1 hx with hx | hx
      · exact h.byte x hx
      · exact lbytes_byte L x hx
    · exact h
  · exact h
theorem allOk_app {L M : List PR} : allOk (L ++ M) ↔ allOk L ∧ allOk M := by
  constructor
  · exact fun h => ⟨fun r hr => h r (List.mem_append_left _ hr), fun r hr => h r (List.mem_append_right _ hr)⟩
  · rintro ⟨h1, h2⟩ r hr
    rcases List.mem_append.1 hr with hr | hr
    · exact h1 r hr
    · exact h2 r hr
/-- What comes of adding: nothing, or not; in two parts as in one. -/
theorem addD_cases (L M : List PR) (D : Dk) :
    (allOk L ∧ allOk M ∧ D.bs.length + (lbytes L).length + (lbytes M).length ≤ D.room ∧ addD (L ++ M) D = (⟨D.bs ++ lbytes L ++ lbytes M, D.syn, D.room⟩, 0) ∧ addD L D = (⟨D.bs ++ lbytes L, D.syn, D.room⟩, 0) ∧ addD M ⟨D.bs ++ lbytes L, D.syn, D.room⟩ = (⟨D.bs ++ lbytes L ++ lbytes M, D.syn, D.room⟩, 0)) ∨
    (okAll (L ++ M) = false ∧ addD (L ++ M) D = (D, 2)) ∨ (okAll (L ++ M) = true ∧ addD (L ++ M) D = (D, 30)) := by
  by_cases h : allOk (L ++ M)
  · obtain ⟨h1, h2⟩ := allOk_app.1 h
    by_cases hf : D.bs.length + (lbytes (L ++ M)).length ≤ D.room
    · have hf2 := hf
      rw [lbytes_app, List.length_append] at hf2
      refine .inl ⟨h1, h2, by omega, ?_, addD_yes h1 (by omega), addD_yes h2 (by simp only [List.length_append]; omega)⟩
      rw [addD_yes h hf, lbytes_app, List.append_assoc]
    · exact .inr (.inr ⟨okAll_yes h, addD_full h hf⟩)
  · exact .inr (.inl ⟨okAll_no h, addD_no h⟩)

theorem same_disksN {q : List Nat} {n u R : Nat} (hok : (⟨q, u, R⟩ : Dk).Ok) (hn : q.length = n) {W : World} {A A' : Option Addr} {c c' : Nat} (h : Rd W W.heap.size A n (bv q)) (hc : n ≤ c) (h' : Rd W W.heap.size A' n (bv q)) (hc' : n ≤ c') :
    Calls Try.prog 17 #[diskV A n c u R, diskV A' n c' u R] W (BoolPost true W) := by
  subst hn
  have hl : q.length ≤ 500000 := by have h1 := hok.len; have h2 := hok.room; simp only at h1 h2; omega
  have hcn := cnt_self hok
  have h1 := refSame_any A q.length c u R q A' q.length c' u R q W h hc hl hok.byte h' hc' hl hok.byte hcn rfl hcn rfl
  rw [show decide ((⟨q, u, R⟩ : Dk) = ⟨q, u, R⟩) = true by simp] at h1
  exact h1

theorem recsCells_two {es : List RE} {j : Nat} {u : Value} (h : (recsCells es)[j]? = some u) : ∃ i x, es[i]? = some x ∧ ((j = i * 2 ∧ u = .int .u8 (x.k : Int)) ∨ (j = i * 2 + 1 ∧ u = x.val)) := by
  have hj : j < (recsCells es).length := (List.getElem?_eq_some_iff.1 h).1
  rw [recsCells_length] at hj
  have hi : j / 2 < es.length := by omega
  obtain ⟨x, hx⟩ : ∃ x, es[j / 2]? = some x := ⟨_, List.getElem?_eq_getElem hi⟩
  obtain ⟨h1, h2⟩ := recsCells_at hx
  refine ⟨j / 2, x, hx, ?_⟩
  rcases Nat.mod_two_eq_zero_or_one j with hm | hm
  · left
    have e : j = j / 2 * 2 := by omega
    rw [← e] at h1
    exact ⟨e, Option.some.inj (h.symm.trans h1)⟩
  · right
    have e : j = j / 2 * 2 + 1 := by omega
    rw [← e] at h2
    exact ⟨e, Option.some.inj (h.symm.trans h2)⟩

theorem wrapI_small {n : Int} (h0 : 0 ≤ n) (h1 : n ≤ 1000000000) : IntKind.i64.wrap n = n := by
  simp only [IntKind.wrap, IntKind.bits, IntKind.signed]
  simp
  split <;> omega
set_option maxRecDepth 100000 in
/-- 'append(v, l...)' of records that lie anywhere. -/
theorem run_cat (w : World) (base : Nat) (v : Value) (es : List RE) (hown : w.ownsRow base 43 2 v es.length (recsCells es)) (B : Nat) (A : Option Addr) (m c : Nat) (fs : List RE) (hr : RdR w B A m fs) (hm : es.length + m ≤ 100000) (hbase : base ≤ w.heap.size) :
    ∃ v' w', (Builtin.append_ #[25, 25] 25 #[v, .slice A m c]).run Try.prog w = .ok v' w' ∧ w'.ownsRow base 43 2 v' (es.length + m) (recsCells (es ++ fs)) ∧ w.grownBy w' v.ownBlock := by
  obtain ⟨i0, hi, hz0, hz1, hz2⟩ := info_parts info_rec
  have hcat : recsCells (es ++ fs) = recsCells es ++ recsCells fs := by simp [recsCells]
  rcases A with _ | ad
  · have hm0 : m = 0 := by
      rcases Nat.eq_zero_or_pos m with h | h
      · exact h
      · obtain ⟨b, off, e, _⟩ := hr.2.1 h
        cases e
    subst hm0
    have hb : fs = [] := List.eq_nil_of_length_eq_zero hr.1
    subst hb
    have ht := Try.underlying25
    refine ⟨v, w, ?_, by simpa using hown, World.grownBy.refl w _⟩
    rcases hown.2 with ⟨rfl, _⟩ | ⟨g, cap, cur, rfl, _, _, hnc, _⟩
    · simp [Builtin.append_, run_underlying ht, sizeOf, typeInfo, hi, Builtin.lenOf, Builtin.firstCells]
    · simp [Builtin.append_, run_underlying ht, sizeOf, typeInfo, hi, Builtin.lenOf, Builtin.firstCells, hnc, storeCells]
  · have hcells : ∀ j u, (recsCells fs)[j]? = some u → w.cell? (ad.add j) = some u := by
      intro j u hu
      obtain ⟨i, x, hx, h⟩ := recsCells_two hu
      have hil : i < fs.length := (List.getElem?_eq_some_iff.1 hx).1
      obtain ⟨b, off, e, _, hc⟩ := hr.2.1 (by rw [← hr.1]; omega)
      injection e with e
      subst e
      obtain ⟨h1, h2⟩ := hc i x hx
      rw [Addr.add_lit]
      rcases h with ⟨rfl, rfl⟩ | ⟨rfl, rfl⟩
      · exact h1
      · rw [← Nat.add_assoc]; exact h2
    have hone : ∀ u ∈ recsCells fs, u.oneCell' = true := by
      intro u hu
      obtain ⟨x, _, hx⟩ := List.mem_flatMap.1 hu
      simp only [List.mem_cons, List.not_mem_nil, or_false] at hx
      rcases hx with rfl | rfl <;> rfl
    obtain ⟨v', w', h1, h2, h3, _⟩ := run_append_own (P := Try.prog) w base 25 25 43 i0 (.agg #[.int .u8 0, .slice none 0 0]) 2 32 Try.underlying25 hi hz0 hz1 hz2 rfl (by decide) v es.length (recsCells es) hown ad m c (recsCells fs) (by rw [recsCells_length, hr.1]) hcells hone (by unfold maxLen; omega) (by omega) hbase
    rw [← hcat] at h2
    exact ⟨v', w', h1, h2, h3⟩
/-- A row of records of the call's own, as a slice that is read. -/
theorem rdR_of_own {w : World} {base n c : Nat} {A : Option Addr} {es : List RE} (h : w.ownsRow base 43 2 (.slice A n c) n (recsCells es)) (hin : ∀ x ∈ es, x.k < 256 ∧ Rd w w.heap.size x.A x.n (iv x.zs)) : RdR w w.heap.size A n es := by
  have hl : es.length = n := by have h1 := h.1; rw [recsCells_length] at h1; omega
  refine ⟨hl, fun hn => ?_, hin⟩
  rcases h.2 with ⟨h4, h5⟩ | ⟨g, cap, cur, h4, _, h5, _⟩
  · omega
  · injection h4 with hA _ _
    subst hA
    have hlt : g < w.heap.size := (Array.getElem?_eq_some_iff.1 h5).1
    refine ⟨g, 0, rfl, hlt, fun j x hx => ?_⟩
    obtain ⟨h6, h7⟩ := recsCells_at hx
    have h8 := h.cells (g := g) rfl _ _ h6
    have h9 := h.cells (g := g) rfl _ _ h7
    rw [Addr.add_lit] at h8 h9
    exact ⟨h8, h9⟩
theorem allB_ok (l : List RE) : allB l = okAll (recsOf l) := by simp [allB, okAll, recsOf, List.all_map, Function.comp_def]

set_option maxRecDepth 100000 in
set_option maxHeartbeats 800000 in
theorem logParts_out1 (A : Option Addr) (n c : Nat) (s r : Int) (Al : Option Addr) (nl cl : Nat) (el : List RE) (Am : Option Addr) (nm cm : Nat) (em : List RE) (w : World) (hl : RdR w w.heap.size Al nl el) (hm : RdR w w.heap.size Am nm em) (h : greatL n el = true) :
    Calls Try.prog 6 #[diskV A n c s r, .slice Al nl cl, .slice Am nm cm] w (TruePost w) := by
  have hb0 : Below w.heap.size w (w.alloc (diskB A n c s r)) := (Below.refl w.heap.size w).alloc (Nat.le_refl _) (diskB A n c s r)
  have HB := Lib.hid hb0
  have HX := Lib.hid (Whole.new w 24 #[.slice A n c, .int .i64 s, .int .i64 r])
  obtain ⟨x0, x1, x2⟩ := HX.out.cells3
  have HG : Hid (∀ W, Below w.heap.size w W → Calls Try.prog 8 #[diskV A n c s r, .slice Al nl cl] W (BoolPost (greatL n el) W)) := fun W h => greatL_any A n c s r Al nl cl el w.heap.size W (hl.below h) h.size
  have HG2 : Hid (∀ W, Below w.heap.size w W → Calls Try.prog 8 #[diskV A n c s r, .slice Am nm cm] W (BoolPost (greatL n em) W)) := fun W h => greatL_any A n c s r Am nm cm em w.heap.size W (hm.below h) h.size
  rw [h] at HG
  clear hl hm hb0
  go_enter Try.func6, Try.ntmps6
  go_wp2_with fail
  refine (HG.out _ HB.out).mono ?_
  rintro e w1 ⟨rfl, b1⟩
  have HB1 := Lib.hid (HB.out.trans (b1.mono HB.out.size))
  clear b1
  have HB2 := HB1
  clear HB1
  go_wp2_with fail
  refine (wakesL_any _).mono ?_
  rintro e w3 ⟨rfl, b3⟩
  have B3 := Lib.hid (HB2.out.trans (b3.mono HB2.out.size))
  clear b3
  go_wp2_with fail
  go_ret
  exact ⟨rfl, B3.out⟩

set_option maxRecDepth 100000 in
set_option maxHeartbeats 800000 in
theorem logParts_out2 (A : Option Addr) (n c : Nat) (s r : Int) (Al : Option Addr) (nl cl : Nat) (el : List RE) (Am : Option Addr) (nm cm : Nat) (em : List RE) (w : World) (hl : RdR w w.heap.size Al nl el) (hm : RdR w w.heap.size Am nm em) (h : greatL n el = false) (h2 : greatL n em = true) :
    Calls Try.prog 6 #[diskV A n c s r, .slice Al nl cl, .slice Am nm cm] w (TruePost w) := by
  have hb0 : Below w.heap.size w (w.alloc (diskB A n c s r)) := (Below.refl w.heap.size w).alloc (Nat.le_refl _) (diskB A n c s r)
  have HB := Lib.hid hb0
  have HX := Lib.hid (Whole.new w 24 #[.slice A n c, .int .i64 s, .int .i64 r])
  obtain ⟨x0, x1, x2⟩ := HX.out.cells3
  have HG : Hid (∀ W, Below w.heap.size w W → Calls Try.prog 8 #[diskV A n c s r, .slice Al nl cl] W (BoolPost (greatL n el) W)) := fun W h => greatL_any A n c s r Al nl cl el w.heap.size W (hl.below h) h.size
  have HG2 : Hid (∀ W, Below w.heap.size w W → Calls Try.prog 8 #[diskV A n c s r, .slice Am nm cm] W (BoolPost (greatL n em) W)) := fun W h => greatL_any A n c s r Am nm cm em w.heap.size W (hm.below h) h.size
  rw [h] at HG
  rw [h2] at HG2
  clear hl hm hb0
  go_enter Try.func6, Try.ntmps6
  go_wp2_with fail
  refine (HG.out _ HB.out).mono ?_
  rintro e w1 ⟨rfl, b1⟩
  have HB1 := Lib.hid (HB.out.trans (b1.mono HB.out.size))
  have hx1 := HX.out.under b1
  clear b1 x0 x1 x2
  obtain ⟨x0, x1, x2⟩ := hx1.cells3
  clear hx1
  go_wp2_with fail
  refine (HG2.out _ HB1.out).mono ?_
  rintro e w2 ⟨rfl, b2⟩
  have HB2 := Lib.hid (HB1.out.trans (b2.mono HB1.out.size))
  clear b2
  go_wp2_with fail
  refine (wakesL_any _).mono ?_
  rintro e w3 ⟨rfl, b3⟩
  have B3 := Lib.hid (HB2.out.trans (b3.mono HB2.out.size))
  clear b3
  go_wp2_with fail
  go_ret
  exact ⟨rfl, B3.out⟩

set_option maxRecDepth 100000 in
set_option maxHeartbeats 800000 in
theorem logParts_out3 (A : Option Addr) (n c : Nat) (s r : Int) (Al : Option Addr) (nl cl : Nat) (el : List RE) (Am : Option Addr) (nm cm : Nat) (em : List RE) (w : World) (hl : RdR w w.heap.size Al nl el) (hm : RdR w w.heap.size Am nm em) (h : greatL n el = false) (h2 : greatL n em = false) (h3 : 30 < nl + nm) :
    Calls Try.prog 6 #[diskV A n c s r, .slice Al nl cl, .slice Am nm cm] w (TruePost w) := by
  have hb0 : Below w.heap.size w (w.alloc (diskB A n c s r)) := (Below.refl w.heap.size w).alloc (Nat.le_refl _) (diskB A n c s r)
  have HB := Lib.hid hb0
  have HX := Lib.hid (Whole.new w 24 #[.slice A n c, .int .i64 s, .int .i64 r])
  obtain ⟨x0, x1, x2⟩ := HX.out.cells3
  have HG : Hid (∀ W, Below w.heap.size w W → Calls Try.prog 8 #[diskV A n c s r, .slice Al nl cl] W (BoolPost (greatL n el) W)) := fun W h => greatL_any A n c s r Al nl cl el w.heap.size W (hl.below h) h.size
  have HG2 : Hid (∀ W, Below w.heap.size w W → Calls Try.prog 8 #[diskV A n c s r, .slice Am nm cm] W (BoolPost (greatL n em) W)) := fun W h => greatL_any A n c s r Am nm cm em w.heap.size W (hm.below h) h.size
  rw [h] at HG
  rw [h2] at HG2
  have hl30 : nl ≤ 30 := by have h4 := (greatL_no h).2.1; rwa [hl.1] at h4
  have hm30 : nm ≤ 30 := by have h4 := (greatL_no h2).2.1; rwa [hm.1] at h4
  have h3' : (30 : Int) < (nl : Int) + (nm : Int) := by omega
  clear hl hm hb0
  go_enter Try.func6, Try.ntmps6
  go_wp2_with fail
  refine (HG.out _ HB.out).mono ?_
  rintro e w1 ⟨rfl, b1⟩
  have HB1 := Lib.hid (HB.out.trans (b1.mono HB.out.size))
  have hx1 := HX.out.under b1
  clear b1 x0 x1 x2
  obtain ⟨x0, x1, x2⟩ := hx1.cells3
  clear hx1
  go_wp2_with fail
  refine (HG2.out _ HB1.out).mono ?_
  rintro e w2 ⟨rfl, b2⟩
  have HB2 := Lib.hid (HB1.out.trans (b2.mono HB1.out.size))
  clear b2
  go_wp2_with fail
  refine (wakesL_any _).mono ?_
  rintro e w3 ⟨rfl, b3⟩
  have B3 := Lib.hid (HB2.out.trans (b3.mono HB2.out.size))
  clear b3
  go_wp2_with fail
  go_ret
  exact ⟨rfl, B3.out⟩

set_option maxRecDepth 100000 in
set_option maxHeartbeats 8000000 in
theorem logParts_in (A : Option Addr) (n c : Nat) (s r : Int) (bs : List Nat) (Al : Option Addr) (nl cl : Nat) (el : List RE) (Am : Option Addr) (nm cm : Nat) (em : List RE) (w : World) (hr : Rd w w.heap.size A n (bv bs)) (hc : n ≤ c) (hby : ∀ x ∈ bs, x < 256) (hl : RdR w w.heap.size Al nl el) (hm : RdR w w.heap.size Am nm em)
    (hg : greatL n el = false) (hg2 : greatL n em = false) (h30 : nl + nm ≤ 30) (L M : List PR) (hL : recsOf el = L) (hM : recsOf em = M) (ob : List Nat) (S R : Nat) (hD : cnt bs s r = ⟨ob, S, R⟩) (K : Nat) (hK : ob.length = K)
    (b1 b2 b3 : List Nat) (S1 R1 S2 R2 S3 R3 n1 n2 n3 : Nat) (E F G : Int) (okA : Bool) (hA1 : addD (L ++ M) ⟨ob, S, R⟩ = (⟨b1, S1, R1⟩, E)) (hA2 : addD L ⟨ob, S, R⟩ = (⟨b2, S2, R2⟩, F)) (hA3 : addD M ⟨b2, S2, R2⟩ = (⟨b3, S3, R3⟩, G)) (hn1 : b1.length = n1) (hn2 : b2.length = n2) (hn3 : b3.length = n3) (hokA : okAll (L ++ M) = okA)
    (ZL ZM : Nat) (hcase : (E = 0 ∧ F = 0 ∧ G = 0 ∧ b3 = b1 ∧ S3 = S1 ∧ R3 = R1 ∧ allOk L ∧ allOk M ∧ (lbytes L).length = ZL ∧ (lbytes M).length = ZM ∧ n1 = K + ZL + ZM) ∨ (E = 2 ∧ okA = false ∧ b1 = ob ∧ S1 = S ∧ R1 = R) ∨ (E = 30 ∧ okA = true ∧ b1 = ob ∧ S1 = S ∧ R1 = R)) :
    Calls Try.prog 6 #[diskV A n c s r, .slice Al nl cl, .slice Am nm cm] w (TruePost w) := by
  obtain ⟨hn, _, _⟩ := greatL_no hg
  have hok : (⟨ob, S, R⟩ : Dk).Ok := by rw [← hD]; exact cnt_ok s r hby
  have hok1 : (⟨b1, S1, R1⟩ : Dk).Ok := by have h := addD_okP (L := L ++ M) hok; rwa [hA1] at h
  have hok2 : (⟨b2, S2, R2⟩ : Dk).Ok := by have h := addD_okP (L := L) hok; rwa [hA2] at h
  have hLM : recsOf (el ++ em) = L ++ M := by rw [recsOf, List.map_append, ← recsOf, ← recsOf, hL, hM]
  have HD0 := Lib.hid (DAt.start (c := c) (s := s) (r := r) hr)
  have HIn : Hid (∀ W, Below w.heap.size w W → ∀ x ∈ el ++ em, x.k < 256 ∧ Rd W W.heap.size x.A x.n (iv x.zs)) := fun W hb x hx => by
    rcases List.mem_append.1 hx with hx | hx
    · exact ⟨(hl.2.2 x hx).1, ((hl.2.2 x hx).2.below hb).more hb.size⟩
    · exact ⟨(hm.2.2 x hx).1, ((hm.2.2 x hx).2.below hb).more hb.size⟩
  have HlR : Hid (∀ W, Below w.heap.size w W → RdR W W.heap.size Al nl el) := fun W hb => (hl.below hb).more hb.size
  have HmR : Hid (∀ W, Below w.heap.size w W → RdR W W.heap.size Am nm em) := fun W hb => (hm.below hb).more hb.size
  have HG : Hid (∀ W, Below w.heap.size w W → Calls Try.prog 8 #[diskV A n c s r, .slice Al nl cl] W (BoolPost (greatL n el) W)) := fun W h => greatL_any A n c s r Al nl cl el w.heap.size W (hl.below h) h.size
  have HG2 : Hid (∀ W, Below w.heap.size w W → Calls Try.prog 8 #[diskV A n c s r, .slice Am nm cm] W (BoolPost (greatL n em) W)) := fun W h => greatL_any A n c s r Am nm cm em w.heap.size W (hm.below h) h.size
  rw [hg] at HG
  rw [hg2] at HG2
  have hell : el.length = nl := hl.1
  have heml : em.length = nm := hm.1
  have HA1 : Hid (∀ W A5 c5, Rd W W.heap.size A n (bv bs) → RdR W W.heap.size A5 (nl + nm) (el ++ em) → Calls Try.prog 12 #[diskV A n c s r, .slice A5 (nl + nm) c5] W (DiskNE n1 b1 S1 R1 E W)) := fun W A5 c5 h h' => by
    have h1 := logAdd_any A n c s r bs A5 (nl + nm) c5 (el ++ em) (L ++ M) hLM W h hc hby h' (by omega) hD
    rw [hA1] at h1
    unfold DkE at h1
    simp only [hn1] at h1
    exact h1
  have HA2 : Hid (∀ W, Rd W W.heap.size A n (bv bs) → RdR W W.heap.size Al nl el → Calls Try.prog 12 #[diskV A n c s r, .slice Al nl cl] W (DiskNE n2 b2 S2 R2 F W)) := fun W h h' => by
    have h1 := logAdd_any A n c s r bs Al nl cl el L hL W h hc hby h' (by omega) hD
    rw [hA2] at h1
    unfold DkE at h1
    simp only [hn2] at h1
    exact h1
  have HA3 : Hid (∀ W A6 c6, Rd W W.heap.size A6 n2 (bv b2) → n2 ≤ c6 → RdR W W.heap.size Am nm em → Calls Try.prog 12 #[diskV A6 n2 c6 S2 R2, .slice Am nm cm] W (DiskNE n3 b3 S3 R3 G W)) := fun W A6 c6 h hc6 h' => by
    have h1 := logAdd_any A6 n2 c6 S2 R2 b2 Am nm cm em M hM W h hc6 hok2.byte h' (by omega) (cnt_self hok2)
    rw [hA3] at h1
    unfold DkE at h1
    simp only [hn3] at h1
    exact h1
  have HAll : Hid (∀ W A5 c5, RdR W W.heap.size A5 (nl + nm) (el ++ em) → Calls Try.prog 27 #[.slice A5 (nl + nm) c5] W (BoolPost okA W)) := fun W A5 c5 h => by
    have h1 := refAll_any A5 (nl + nm) c5 (el ++ em) W.heap.size W h (Nat.le_refl _) (by omega)
    rwa [allB_ok, hLM, hokA] at h1
  have HSd : Hid (∀ W A5 c5, Rd W W.heap.size A5 K (bv ob) → K ≤ c5 → Rd W W.heap.size A n (bv bs) → Calls Try.prog 17 #[diskV A5 K c5 S R, diskV A n c s r] W (BoolPost true W)) := fun W A5 c5 h hc5 h' => by
    have hl5 : K ≤ 500000 := by have h1 := hok.len; have h2 := hok.room; simp only at h1 h2; omega
    have h1 := refSame_any A5 K c5 S R ob A n c s r bs W h hc5 hl5 hok.byte h' hc (by omega) hby (cnt_self hok) hK hD hK
    rw [show decide ((⟨ob, S, R⟩ : Dk) = ⟨ob, S, R⟩) = true by simp] at h1
    exact h1
  have HS1 : Hid (∀ W A5 c5 A7 c7, Rd W W.heap.size A5 n1 (bv b1) → n1 ≤ c5 → Rd W W.heap.size A7 n1 (bv b1) → n1 ≤ c7 → Calls Try.prog 17 #[diskV A5 n1 c5 S1 R1, diskV A7 n1 c7 S1 R1] W (BoolPost true W)) := fun W A5 c5 A7 c7 h hc5 h' hc7 => same_disksN hok1 hn1 h hc5 h' hc7
  have HOw : Hid (∀ W, Rd W W.heap.size A n (bv bs) → Calls Try.prog 28 #[diskV A n c s r] W (DiskN K ob S R W)) := fun W h => refOwn_any A n c s r bs W h hc (by omega) hD hK
  have HLa : Hid (∀ W A5 c5, RdR W W.heap.size A5 (nl + nm) (el ++ em) → Calls Try.prog 20 #[.slice A5 (nl + nm) c5] W (LenIs (L ++ M) W)) := fun W A5 c5 h => logLong_any A5 (nl + nm) c5 (el ++ em) (L ++ M) hLM W.heap.size W h (Nat.le_refl _) (by omega)
  have HLl : Hid (∀ W, RdR W W.heap.size Al nl el → Calls Try.prog 20 #[.slice Al nl cl] W (LenIs L W)) := fun W h => logLong_any Al nl cl el L hL W.heap.size W h (Nat.le_refl _) (by omega)
  have HLm : Hid (∀ W, RdR W W.heap.size Am nm em → Calls Try.prog 20 #[.slice Am nm cm] W (LenIs M W)) := fun W h => logLong_any Am nm cm em M hM W.heap.size W h (Nat.le_refl _) (by omega)
  have hll : L.length ≤ 30 ∧ M.length ≤ 30 := by
    have h1 : L.length = nl := by rw [← hL, recsOf, List.length_map]; exact hl.1
    have h2 : M.length = nm := by rw [← hM, recsOf, List.length_map]; exact hm.1
    omega
  have HCase := Lib.hid hcase
  have HLl30 := Lib.hid hll
  have HN1 := Lib.hid hn1
  have HN3 := Lib.hid hn3
  have HKK := Lib.hid hK
  have h30' : ¬ (30 : Int) < (nl : Int) + (nm : Int) := by omega
  have hnl : nl ≤ 30 := by omega
  have hnm : nm ≤ 30 := by omega
  have HEl := Lib.hid hell
  have HEm := Lib.hid heml
  have hK5 : K ≤ 65536 := by have h1 := hok.len; have h2 := hok.room; simp only at h1 h2; omega
  obtain ⟨x0, x1, x2⟩ := HD0.out.box.cells3
  clear hr hc hby hl hm hg hg2 h30 hL hM hD hK hA1 hA2 hA3 hn1 hn2 hn3 hokA hcase hn hok hok1 hok2 hLM hll hell heml
  go_enter Try.func6, Try.ntmps6
  go_wp2_with fail
  refine (HG.out _ HD0.out.below).mono ?_
  rintro e w1 ⟨rfl, d1⟩
  have HD_1 := Lib.hid (HD0.out.under d1)
  clear HD0
  clear d1 x0 x1 x2 HG
  obtain ⟨x0, x1, x2⟩ := HD_1.out.box.cells3
  go_wp2_with fail
  refine (HG2.out _ HD_1.out.below).mono ?_
  rintro e w2 ⟨rfl, d2⟩
  have HD_2 := Lib.hid (HD_1.out.under d2)
  clear HD_1
  clear d2 x0 x1 x2 HG2
  have hA3 := (Below.refl w2.heap.size w2).alloc (Nat.le_refl _) (.cells #[] 43)
  have ho3 := World.ownsRow_made (base := w2.heap.size) (e := 43) (size := 2) w2 #[] 0 (by simp) (Nat.zero_le _) rfl
  obtain ⟨v3, w3, hrun3, o3, g3⟩ := run_cat (w2.alloc (.cells #[] 43)) w2.heap.size _ [] ho3 _ Al nl cl el (HlR.out _ (HD_2.out.below.trans (hA3.mono HD_2.out.below.size))) (by simp; omega) (by simp)
  have hB3 := hA3.trans (below_row ho3 g3 (by simp))
  rw [List.nil_append, show ([] : List RE).length + nl = el.length by rw [HEl.out]; simp] at o3
  obtain ⟨A3, c3, rfl⟩ := own_formR o3
  obtain ⟨v4, w4, hrun4, o4, g4⟩ := run_cat w3 w2.heap.size _ el o3 _ Am nm cm em (HmR.out _ (HD_2.out.below.trans (hB3.mono HD_2.out.below.size))) (by rw [HEl.out]; omega) hB3.size
  have hB4 := hB3.trans (below_row o3 g4 hB3.size)
  obtain ⟨A4, c4, rfl⟩ := own_formR o4
  rw [HEl.out] at hrun3 hrun4 o4
  have HRun3 := Lib.hid hrun3
  have HRun4 := Lib.hid hrun4
  have hAl := rdR_of_own o4 (HIn.out _ (HD_2.out.below.trans (hB4.mono HD_2.out.below.size)))
  have HAl := Lib.hid hAl
  clear hA3 ho3 hrun3 o3 g3 hB3 hrun4 o4 g4 hAl
  have HD_3 := Lib.hid (HD_2.out.under hB4)
  clear HD_2
  clear hB4
  obtain ⟨x0, x1, x2⟩ := HD_3.out.box.cells3
  go_wp2_with (first | (at_builtin; refine wpList_app (by rfl) _ _ _ rfl _ _ _ _ rfl rfl HRun3.out ?_; clear HRun3) | (at_builtin; refine wpList_app (by rfl) _ _ _ rfl _ _ _ _ rfl rfl HRun4.out ?_; clear HRun4))
  refine (HA1.out _ _ _ HD_3.out.rd HAl.out).mono ?_
  rintro e w5 ⟨A5, c5, rfl, o5, d5⟩
  have d5' := d5.alloc d5.size (.cells #[.slice A5 n1 c5, .int .i64 S1, .int .i64 R1] 24)
  have hal := (Below.refl w5.heap.size w5).alloc (Nat.le_refl _) (.cells #[.slice A5 n1 c5, .int .i64 S1, .int .i64 R1] 24)
  have HC5 := Lib.hid (own_cap o5)
  have HD_4 := Lib.hid (HD_3.out.under d5')
  have HAl_4 := Lib.hid ((HAl.out.below d5').more d5'.size)
  clear HD_3 HAl
  have HO5_4 := Lib.hid (own_under o5 hal)
  have HB5_4 := Lib.hid (Whole.new w5 24 #[.slice A5 n1 c5, .int .i64 S1, .int .i64 R1])
  clear d5 d5' o5 hal x0 x1 x2
  obtain ⟨x0, x1, x2⟩ := HD_4.out.box.cells3
  go_wp2_with fail
  refine (HA2.out _ HD_4.out.rd (HlR.out _ HD_4.out.below)).mono ?_
  rintro e w6 ⟨A6, c6, rfl, o6, d6⟩
  have HD_5 := Lib.hid (HD_4.out.under d6)
  have HAl_5 := Lib.hid ((HAl_4.out.below d6).more d6.size)
  have HO5_5 := Lib.hid (own_under HO5_4.out d6)
  have HB5_5 := Lib.hid (HB5_4.out.under d6)
  clear HD_4 HAl_4 HO5_4 HB5_4
  have hal6 := (Below.refl w6.heap.size w6).alloc (Nat.le_refl _) (.cells #[.slice A6 n2 c6, .int .i64 S2, .int .i64 R2] 24)
  have HC6 := Lib.hid (own_cap o6)
  have HO6 := Lib.hid (own_under o6 hal6)
  have HB6 := Lib.hid (Whole.new w6 24 #[.slice A6 n2 c6, .int .i64 S2, .int .i64 R2])
  have HA6 := Lib.hid hal6
  have HE6 := Lib.hid (HD_5.out.below.trans (hal6.mono HD_5.out.below.size))
  clear d6 o6 hal6 x0 x1 x2
  obtain ⟨x0, x1, x2⟩ := HB6.out.cells3
  go_wp2_with fail
  refine (HA3.out _ _ _ (Rd.of_own HO6.out) HC6.out (HmR.out _ HE6.out)).mono ?_
  rintro e w7 ⟨A7, c7, rfl, o7, d7⟩
  have HB7 := Lib.hid (HB6.out.under d7)
  have HC7 := Lib.hid (own_cap o7)
  have bw := below_setDisk (HA6.out.trans (d7.mono HA6.out.size)) (b := w6.heap.size) (Nat.le_refl _) (.slice A7 n3 c7) (.int .i64 S3) (.int .i64 R3)
  have HO7 := Lib.hid (own_setDisk o7 (b := w6.heap.size) (by simp) (.slice A7 n3 c7) (.int .i64 S3) (.int .i64 R3))
  have HB8 := Lib.hid (HB7.out.disk (.slice A7 n3 c7) (.int .i64 S3) (.int .i64 R3))
  have HD_6 := Lib.hid (HD_5.out.under bw)
  have HAl_6 := Lib.hid ((HAl_5.out.below bw).more bw.size)
  have HO5_6 := Lib.hid (own_under HO5_5.out bw)
  have HB5_6 := Lib.hid (HB5_5.out.under bw)
  clear HD_5 HAl_5 HO5_5 HB5_5
  obtain ⟨W8, hW8⟩ : ∃ W, setDisk w7 w6.heap.size (.slice A7 n3 c7) (.int .i64 S3) (.int .i64 R3) = W := ⟨_, rfl⟩
  have hW8' : ((w7.setCell ⟨w6.heap.size, 0, none⟩ (.slice A7 n3 c7)).setCell ⟨w6.heap.size, 1, none⟩ (.int .i64 S3)).setCell ⟨w6.heap.size, 2, none⟩ (.int .i64 R3) = W8 := hW8
  rw [hW8] at HD_6 HAl_6 HO5_6 HB5_6 HO7 HB8
  have HW8 := Lib.hid hW8'
  obtain ⟨y0, y1, y2⟩ := HB7.out.cells3
  have f0 := HB7.out.frozen 0
  have f1 := HB7.out.frozen 1
  have f2 := HB7.out.frozen 2
  clear d7 o7 bw x0 x1 x2 hW8 hW8' HB7 HO6 HB6 HA6 HE6
  rcases HCase.out with ⟨rfl, rfl, rfl, rfl, rfl, rfl, hokL, hokM, hZL, hZM, hsum⟩ | hErr
  · obtain rfl : n3 = n1 := HN3.out.symm.trans HN1.out
    have hbL := lbytes_le hokL
    have hbM := lbytes_le hokM
    have h30b := HLl30.out
    have hZLb : ZL ≤ 9180 := by omega
    have hZMb : ZM ≤ 9180 := by omega
    have hla : lenOf (L ++ M) = (ZL : Int) + (ZM : Int) := by
      rw [lenOf_yes (allOk_app.2 ⟨hokL, hokM⟩), lbytes_app, List.length_append, hZL, hZM]; omega
    have hll1 : lenOf L = (ZL : Int) := by rw [lenOf_yes hokL, hZL]
    have hlm1 : lenOf M = (ZM : Int) := by rw [lenOf_yes hokM, hZM]
    have hw1 : IntKind.i64.wrap ((ZL : Int) + (ZM : Int)) = (ZL : Int) + (ZM : Int) := wrapI_small (by omega) (by omega)
    have hw2 : IntKind.i64.wrap ((K : Int) + ((ZL : Int) + (ZM : Int))) = (K : Int) + ((ZL : Int) + (ZM : Int)) := wrapI_small (by omega) (by omega)
    have d3 : ((ZL : Int) + (ZM : Int) == (ZL : Int) + (ZM : Int)) = true := by simp
    have d2 : (((n3 : Nat) : Int) == (K : Int) + ((ZL : Int) + (ZM : Int))) = true := by rw [beq_iff_eq]; omega
    unfold LenIs at HLa HLl HLm
    rw [hla] at HLa
    rw [hll1] at HLl
    rw [hlm1] at HLm
    clear hokL hokM hZL hZM hsum hla hll1 hlm1 hbL hbM h30b HCase
    have HL : Hid (∀ W, Below W8.heap.size W8 W → W.cell? ⟨w.heap.size, 0, none⟩ = some (.slice A n c) ∧ W.cell? ⟨w.heap.size, 1, none⟩ = some (.int .i64 s) ∧ W.cell? ⟨w.heap.size, 2, none⟩ = some (.int .i64 r) ∧
        W.cell? ⟨w5.heap.size, 0, none⟩ = some (.slice A5 n3 c5) ∧ W.cell? ⟨w5.heap.size, 1, none⟩ = some (.int .i64 S3) ∧ W.cell? ⟨w5.heap.size, 2, none⟩ = some (.int .i64 R3) ∧
        W.cell? ⟨w6.heap.size, 0, none⟩ = some (.slice A7 n3 c7) ∧ W.cell? ⟨w6.heap.size, 1, none⟩ = some (.int .i64 S3) ∧ W.cell? ⟨w6.heap.size, 2, none⟩ = some (.int .i64 R3) ∧
        Rd W W.heap.size A n (bv bs) ∧ Rd W W.heap.size A5 n3 (bv b3) ∧ Rd W W.heap.size A7 n3 (bv b3) ∧ RdR W W.heap.size A4 (nl + nm) (el ++ em) ∧ Below w.heap.size w W) := fun W hW => by
      have g := HD_6.out.under hW
      have g5 := (HB5_6.out.under hW).cells3
      have g7 := (HB8.out.under hW).cells3
      exact ⟨g.box.cell 0, g.box.cell 1, g.box.cell 2, g5.1, g5.2.1, g5.2.2, g7.1, g7.2.1, g7.2.2, g.rd, Rd.of_own (own_under HO5_6.out hW), Rd.of_own (own_under HO7.out hW), (HAl_6.out.below hW).more hW.size, g.below⟩
    have HC := Lib.hid ((Below.refl W8.heap.size W8).drew)
    have hfl := field0_disk
    clear HD_6 HB5_6 HB8 HO5_6 HO7 HAl_6
    go_wp2_with (rw [HW8.out]; clear y0 y1 y2 f0 f1 f2 HW8)
    refine wp_region_held_drew (S := fun W => Below W8.heap.size W8 W) (by kernel_rfl) HC.out (fun _ => ?_)
    refine takeH (i := 0) (v := ?_) rfl (by kernel_rfl) (by kernel_rfl) (by kernel_rfl) (fun _ _ _ h => h) (by rfl) ?_ HC.out ?_
    rotate_left
    · intro W hW; obtain ⟨L0, L1, L2, M0, M1, M2, N0, N1, N2, RA, RO, RT, RL, BA⟩ := HL.out W hW; go_simp <;> with_reducible rfl
    simp only [Act.put, List.setIfInBounds_toArray, List.set_cons_zero, List.set_cons_succ]
    refine takeH (i := 1) (v := ?_) rfl (by kernel_rfl) (by kernel_rfl) (by kernel_rfl) (fun _ _ _ h => h) (by rfl) ?_ HC.out ?_
    rotate_left
    · intro W hW; obtain ⟨L0, L1, L2, M0, M1, M2, N0, N1, N2, RA, RO, RT, RL, BA⟩ := HL.out W hW; go_simp <;> with_reducible rfl
    simp only [Act.put, List.setIfInBounds_toArray, List.set_cons_zero, List.set_cons_succ]
    refine takeH (i := 2) (v := ?_) rfl (by kernel_rfl) (by kernel_rfl) (by kernel_rfl) (fun _ _ _ h => h) (by rfl) ?_ HC.out ?_
    rotate_left
    · intro W hW; obtain ⟨L0, L1, L2, M0, M1, M2, N0, N1, N2, RA, RO, RT, RL, BA⟩ := HL.out W hW; go_simp <;> with_reducible rfl
    simp only [Act.put, List.setIfInBounds_toArray, List.set_cons_zero, List.set_cons_succ]
    refine takeH (i := 3) (v := ?_) rfl (by kernel_rfl) (by kernel_rfl) (by kernel_rfl) (fun _ _ _ h => h) (by rfl) ?_ HC.out ?_
    rotate_left
    · intro W hW; obtain ⟨L0, L1, L2, M0, M1, M2, N0, N1, N2, RA, RO, RT, RL, BA⟩ := HL.out W hW; go_simp <;> with_reducible rfl
    simp only [Act.put, List.setIfInBounds_toArray, List.set_cons_zero, List.set_cons_succ]
    refine takeH (i := 4) (v := ?_) rfl (by kernel_rfl) (by kernel_rfl) (by kernel_rfl) (fun _ _ _ h => h) (by rfl) ?_ HC.out ?_
    rotate_left
    · intro W hW; obtain ⟨L0, L1, L2, M0, M1, M2, N0, N1, N2, RA, RO, RT, RL, BA⟩ := HL.out W hW; go_simp <;> with_reducible rfl
    simp only [Act.put, List.setIfInBounds_toArray, List.set_cons_zero, List.set_cons_succ]
    refine takeH (i := 5) (v := ?_) rfl (by kernel_rfl) (by kernel_rfl) (by kernel_rfl) (fun _ _ _ h => h) (by rfl) ?_ HC.out ?_
    rotate_left
    · intro W hW; obtain ⟨L0, L1, L2, M0, M1, M2, N0, N1, N2, RA, RO, RT, RL, BA⟩ := HL.out W hW; go_simp <;> with_reducible rfl
    simp only [Act.put, List.setIfInBounds_toArray, List.set_cons_zero, List.set_cons_succ]
    refine takeH (i := 6) (v := ?_) rfl (by kernel_rfl) (by kernel_rfl) (by kernel_rfl) (fun _ _ _ h => h) (by rfl) ?_ HC.out ?_
    rotate_left
    · intro W hW; obtain ⟨L0, L1, L2, M0, M1, M2, N0, N1, N2, RA, RO, RT, RL, BA⟩ := HL.out W hW; go_simp <;> with_reducible rfl
    simp only [Act.put, List.setIfInBounds_toArray, List.set_cons_zero, List.set_cons_succ]
    refine takeH (i := 7) (v := ?_) rfl (by kernel_rfl) (by kernel_rfl) (by kernel_rfl) (fun _ _ _ h => h) (by rfl) ?_ HC.out ?_
    rotate_left
    · intro W hW; obtain ⟨L0, L1, L2, M0, M1, M2, N0, N1, N2, RA, RO, RT, RL, BA⟩ := HL.out W hW; go_simp <;> with_reducible rfl
    simp only [Act.put, List.setIfInBounds_toArray, List.set_cons_zero, List.set_cons_succ]
    refine takeH (i := 8) (v := ?_) rfl (by kernel_rfl) (by kernel_rfl) (by kernel_rfl) (fun _ _ _ h => h) (by rfl) ?_ HC.out ?_
    rotate_left
    · intro W hW; obtain ⟨L0, L1, L2, M0, M1, M2, N0, N1, N2, RA, RO, RT, RL, BA⟩ := HL.out W hW; go_simp <;> with_reducible rfl
    simp only [Act.put, List.setIfInBounds_toArray, List.set_cons_zero, List.set_cons_succ]
    refine oneH (i := 9) rfl (by kernel_rfl) (by rfl) (fun K hK => ?_)
    go_simp
    obtain ⟨L0, L1, L2, M0, M1, M2, N0, N1, N2, RA, RO, RT, RL, BA⟩ := HL.out _ HC.out
    refine (HS1.out _ _ _ _ _ RO HC5.out RT HC7.out).mono ?_
    rintro e w11 ⟨rfl, d11⟩
    have HC9 := Lib.hid (HC.out.trans (d11.mono HC.out.size))
    clear HC d11 L0 L1 L2 M0 M1 M2 N0 N1 N2 RA RO RT RL BA
    have HC := HC9
    clear HC9
    refine hK.out _ _ HC.out (fun _ => ?_)
    clear hK K
    refine takeH (i := 10) (v := ?_) rfl (by kernel_rfl) (by kernel_rfl) (by kernel_rfl) (fun _ _ _ h => h) (by rfl) ?_ HC.out ?_
    rotate_left
    · intro W hW; obtain ⟨L0, L1, L2, M0, M1, M2, N0, N1, N2, RA, RO, RT, RL, BA⟩ := HL.out W hW; go_simp <;> with_reducible rfl
    simp only [Act.put, List.setIfInBounds_toArray, List.set_cons_zero, List.set_cons_succ]
    refine takeH (i := 11) (v := ?_) rfl (by kernel_rfl) (by kernel_rfl) (by kernel_rfl) (fun _ _ _ h => h) (by rfl) ?_ HC.out ?_
    rotate_left
    · intro W hW; obtain ⟨L0, L1, L2, M0, M1, M2, N0, N1, N2, RA, RO, RT, RL, BA⟩ := HL.out W hW; go_simp <;> with_reducible rfl
    simp only [Act.put, List.setIfInBounds_toArray, List.set_cons_zero, List.set_cons_succ]
    refine takeH (i := 12) (v := ?_) rfl (by kernel_rfl) (by kernel_rfl) (by kernel_rfl) (fun _ _ _ h => h) (by rfl) ?_ HC.out ?_
    rotate_left
    · intro W hW; obtain ⟨L0, L1, L2, M0, M1, M2, N0, N1, N2, RA, RO, RT, RL, BA⟩ := HL.out W hW; go_simp <;> with_reducible rfl
    simp only [Act.put, List.setIfInBounds_toArray, List.set_cons_zero, List.set_cons_succ]
    refine takeH (i := 14) (v := ?_) rfl (by kernel_rfl) (by kernel_rfl) (by kernel_rfl) (fun _ _ _ h => h) (by rfl) ?_ HC.out ?_
    rotate_left
    · intro W hW; obtain ⟨L0, L1, L2, M0, M1, M2, N0, N1, N2, RA, RO, RT, RL, BA⟩ := HL.out W hW; go_simp <;> with_reducible rfl
    simp only [Act.put, List.setIfInBounds_toArray, List.set_cons_zero, List.set_cons_succ]
    refine takeH (i := 16) (v := ?_) rfl (by kernel_rfl) (by kernel_rfl) (by kernel_rfl) (fun _ _ _ h => h) (by rfl) ?_ HC.out ?_
    rotate_left
    · intro W hW; obtain ⟨L0, L1, L2, M0, M1, M2, N0, N1, N2, RA, RO, RT, RL, BA⟩ := HL.out W hW; go_simp <;> with_reducible rfl
    simp only [Act.put, List.setIfInBounds_toArray, List.set_cons_zero, List.set_cons_succ]
    refine oneH (i := 13) rfl (by kernel_rfl) (by rfl) (fun K hK => ?_)
    go_simp
    obtain ⟨L0, L1, L2, M0, M1, M2, N0, N1, N2, RA, RO, RT, RL, BA⟩ := HL.out _ HC.out
    refine (HLa.out _ _ _ RL).mono ?_
    rintro e w12 ⟨rfl, d12⟩
    have HC9 := Lib.hid (HC.out.trans (d12.mono HC.out.size))
    clear HC d12 L0 L1 L2 M0 M1 M2 N0 N1 N2 RA RO RT RL BA
    have HC := HC9
    clear HC9
    refine hK.out _ _ HC.out (fun _ => ?_)
    clear hK K
    refine oneH (i := 15) rfl (by kernel_rfl) (by rfl) (fun K hK => ?_)
    go_simp
    obtain ⟨L0, L1, L2, M0, M1, M2, N0, N1, N2, RA, RO, RT, RL, BA⟩ := HL.out _ HC.out
    refine (HLl.out _ (HlR.out _ BA)).mono ?_
    rintro e w13 ⟨rfl, d13⟩
    have HC9 := Lib.hid (HC.out.trans (d13.mono HC.out.size))
    clear HC d13 L0 L1 L2 M0 M1 M2 N0 N1 N2 RA RO RT RL BA
    have HC := HC9
    clear HC9
    refine hK.out _ _ HC.out (fun _ => ?_)
    clear hK K
    refine oneH (i := 17) rfl (by kernel_rfl) (by rfl) (fun K hK => ?_)
    go_simp
    obtain ⟨L0, L1, L2, M0, M1, M2, N0, N1, N2, RA, RO, RT, RL, BA⟩ := HL.out _ HC.out
    refine (HLm.out _ (HmR.out _ BA)).mono ?_
    rintro e w14 ⟨rfl, d14⟩
    have HC9 := Lib.hid (HC.out.trans (d14.mono HC.out.size))
    clear HC d14 L0 L1 L2 M0 M1 M2 N0 N1 N2 RA RO RT RL BA
    have HC := HC9
    clear HC9
    refine hK.out _ _ HC.out (fun _ => ?_)
    clear hK K
    refine takeH (i := 18) (v := ?_) rfl (by kernel_rfl) (by kernel_rfl) (by kernel_rfl) (fun _ _ _ h => h) (by rfl) ?_ HC.out ?_
    rotate_left
    · intro W hW; obtain ⟨L0, L1, L2, M0, M1, M2, N0, N1, N2, RA, RO, RT, RL, BA⟩ := HL.out W hW; go_simp <;> with_reducible rfl
    simp only [Act.put, List.setIfInBounds_toArray, List.set_cons_zero, List.set_cons_succ]
    refine takeH (i := 19) (v := ?_) rfl (by kernel_rfl) (by kernel_rfl) (by kernel_rfl) (fun _ _ _ h => h) (by rfl) ?_ HC.out ?_
    rotate_left
    · intro W hW; obtain ⟨L0, L1, L2, M0, M1, M2, N0, N1, N2, RA, RO, RT, RL, BA⟩ := HL.out W hW; go_simp <;> with_reducible rfl
    simp only [Act.put, List.setIfInBounds_toArray, List.set_cons_zero, List.set_cons_succ]
    refine takeH (i := 20) (v := ?_) rfl (by kernel_rfl) (by kernel_rfl) (by kernel_rfl) (fun _ _ _ h => h) (by rfl) ?_ HC.out ?_
    rotate_left
    · intro W hW; obtain ⟨L0, L1, L2, M0, M1, M2, N0, N1, N2, RA, RO, RT, RL, BA⟩ := HL.out W hW; go_simp <;> with_reducible rfl
    simp only [Act.put, List.setIfInBounds_toArray, List.set_cons_zero, List.set_cons_succ]
    refine takeH (i := 21) (v := ?_) rfl (by kernel_rfl) (by kernel_rfl) (by kernel_rfl) (fun _ _ _ h => h) (by rfl) ?_ HC.out ?_
    rotate_left
    · intro W hW; obtain ⟨L0, L1, L2, M0, M1, M2, N0, N1, N2, RA, RO, RT, RL, BA⟩ := HL.out W hW; go_simp <;> with_reducible rfl
    simp only [Act.put, List.setIfInBounds_toArray, List.set_cons_zero, List.set_cons_succ]
    refine takeH (i := 22) (v := ?_) rfl (by kernel_rfl) (by kernel_rfl) (by kernel_rfl) (fun _ _ _ h => h) (by rfl) ?_ HC.out ?_
    rotate_left
    · intro W hW; obtain ⟨L0, L1, L2, M0, M1, M2, N0, N1, N2, RA, RO, RT, RL, BA⟩ := HL.out W hW; go_simp <;> with_reducible rfl
    simp only [Act.put, List.setIfInBounds_toArray, List.set_cons_zero, List.set_cons_succ]
    refine takeH (i := 23) (v := ?_) rfl (by kernel_rfl) (by kernel_rfl) (by kernel_rfl) (fun _ _ _ h => h) (by rfl) ?_ HC.out ?_
    rotate_left
    · intro W hW; obtain ⟨L0, L1, L2, M0, M1, M2, N0, N1, N2, RA, RO, RT, RL, BA⟩ := HL.out W hW; go_simp <;> with_reducible rfl
    simp only [Act.put, List.setIfInBounds_toArray, List.set_cons_zero, List.set_cons_succ]
    refine takeH (i := 24) (v := ?_) rfl (by kernel_rfl) (by kernel_rfl) (by kernel_rfl) (fun _ _ _ h => h) (by rfl) ?_ HC.out ?_
    rotate_left
    · intro W hW; obtain ⟨L0, L1, L2, M0, M1, M2, N0, N1, N2, RA, RO, RT, RL, BA⟩ := HL.out W hW; go_simp <;> with_reducible rfl
    simp only [Act.put, List.setIfInBounds_toArray, List.set_cons_zero, List.set_cons_succ]
    refine takeH (i := 25) (v := ?_) rfl (by kernel_rfl) (by kernel_rfl) (by kernel_rfl) (fun _ _ _ h => h) (by rfl) ?_ HC.out ?_
    rotate_left
    · intro W hW; obtain ⟨L0, L1, L2, M0, M1, M2, N0, N1, N2, RA, RO, RT, RL, BA⟩ := HL.out W hW; go_simp <;> with_reducible rfl
    simp only [Act.put, List.setIfInBounds_toArray, List.set_cons_zero, List.set_cons_succ]
    refine takeH (i := 29) (v := ?_) rfl (by kernel_rfl) (by kernel_rfl) (by kernel_rfl) (fun _ _ _ h => h) (by rfl) ?_ HC.out ?_
    rotate_left
    · intro W hW; obtain ⟨L0, L1, L2, M0, M1, M2, N0, N1, N2, RA, RO, RT, RL, BA⟩ := HL.out W hW; go_simp <;> with_reducible rfl
    simp only [Act.put, List.setIfInBounds_toArray, List.set_cons_zero, List.set_cons_succ]
    refine oneH (i := 26) rfl (by kernel_rfl) (by rfl) (fun K hK => ?_)
    go_simp
    obtain ⟨L0, L1, L2, M0, M1, M2, N0, N1, N2, RA, RO, RT, RL, BA⟩ := HL.out _ HC.out
    refine (HOw.out _ RA).mono ?_
    rintro e w15 ⟨A15, c15, rfl, _, d15⟩
    have HC9 := Lib.hid (HC.out.trans (d15.mono HC.out.size))
    clear HC d15 L0 L1 L2 M0 M1 M2 N0 N1 N2 RA RO RT RL BA
    have HC := HC9
    clear HC9
    refine hK.out _ _ HC.out (fun _ => ?_)
    clear hK K
    refine takeH (i := 27) (v := ?_) rfl (by kernel_rfl) (by kernel_rfl) (by kernel_rfl) (fun _ _ _ h => h) (by rfl) ?_ HC.out ?_
    rotate_left
    · intro W hW; obtain ⟨L0, L1, L2, M0, M1, M2, N0, N1, N2, RA, RO, RT, RL, BA⟩ := HL.out W hW; go_simp <;> with_reducible rfl
    simp only [Act.put, List.setIfInBounds_toArray, List.set_cons_zero, List.set_cons_succ]
    refine takeH (i := 28) (v := ?_) rfl (by kernel_rfl) (by kernel_rfl) (by kernel_rfl) (fun _ _ _ h => h) (by rfl) ?_ HC.out ?_
    rotate_left
    · intro W hW; obtain ⟨L0, L1, L2, M0, M1, M2, N0, N1, N2, RA, RO, RT, RL, BA⟩ := HL.out W hW; go_simp <;> with_reducible rfl
    simp only [Act.put, List.setIfInBounds_toArray, List.set_cons_zero, List.set_cons_succ]
    refine oneH (i := 30) rfl (by kernel_rfl) (by rfl) (fun K hK => ?_)
    go_simp
    obtain ⟨L0, L1, L2, M0, M1, M2, N0, N1, N2, RA, RO, RT, RL, BA⟩ := HL.out _ HC.out
    refine (HLa.out _ _ _ RL).mono ?_
    rintro e w16 ⟨rfl, d16⟩
    have HC9 := Lib.hid (HC.out.trans (d16.mono HC.out.size))
    clear HC d16 L0 L1 L2 M0 M1 M2 N0 N1 N2 RA RO RT RL BA
    have HC := HC9
    clear HC9
    refine hK.out _ _ HC.out (fun _ => ?_)
    clear hK K
    refine takeH (i := 31) (v := ?_) rfl (by kernel_rfl) (by kernel_rfl) (by kernel_rfl) (fun _ _ _ h => h) (by rfl) ?_ HC.out ?_
    rotate_left
    · intro W hW; obtain ⟨L0, L1, L2, M0, M1, M2, N0, N1, N2, RA, RO, RT, RL, BA⟩ := HL.out W hW; go_simp <;> with_reducible rfl
    simp only [Act.put, List.setIfInBounds_toArray, List.set_cons_zero, List.set_cons_succ]
    refine takeH (i := 32) (v := ?_) rfl (by kernel_rfl) (by kernel_rfl) (by kernel_rfl) (fun _ _ _ h => h) (by rfl) ?_ HC.out ?_
    rotate_left
    · intro W hW; obtain ⟨L0, L1, L2, M0, M1, M2, N0, N1, N2, RA, RO, RT, RL, BA⟩ := HL.out W hW; go_simp <;> with_reducible rfl
    simp only [Act.put, List.setIfInBounds_toArray, List.set_cons_zero, List.set_cons_succ]
    refine takeH (i := 33) (v := ?_) rfl (by kernel_rfl) (by kernel_rfl) (by kernel_rfl) (fun _ _ _ h => h) (by rfl) ?_ HC.out ?_
    rotate_left
    · intro W hW; obtain ⟨L0, L1, L2, M0, M1, M2, N0, N1, N2, RA, RO, RT, RL, BA⟩ := HL.out W hW; go_simp <;> with_reducible rfl
    simp only [Act.put, List.setIfInBounds_toArray, List.set_cons_zero, List.set_cons_succ]
    refine takeH (i := 34) (v := ?_) rfl (by kernel_rfl) (by kernel_rfl) (by kernel_rfl) (fun _ _ _ h => h) (by rfl) ?_ HC.out ?_
    rotate_left
    · intro W hW; obtain ⟨L0, L1, L2, M0, M1, M2, N0, N1, N2, RA, RO, RT, RL, BA⟩ := HL.out W hW; go_simp <;> with_reducible rfl
    simp only [Act.put, List.setIfInBounds_toArray, List.set_cons_zero, List.set_cons_succ]
    refine oneH (i := 35) rfl (by kernel_rfl) (by rfl) (fun K hK => ?_)
    go_simp
    obtain ⟨L0, L1, L2, M0, M1, M2, N0, N1, N2, RA, RO, RT, RL, BA⟩ := HL.out _ HC.out
    refine (wakesL_any _).mono ?_
    rintro e w17 ⟨rfl, d17⟩
    have HC9 := Lib.hid (HC.out.trans (d17.mono HC.out.size))
    clear HC d17 L0 L1 L2 M0 M1 M2 N0 N1 N2 RA RO RT RL BA
    have HC := HC9
    clear HC9
    refine hK.out _ _ HC.out (fun _ => ?_)
    clear hK K
    refine takeH (i := 36) (v := ?_) rfl (by kernel_rfl) (by kernel_rfl) (by kernel_rfl) (fun _ _ _ h => h) (by rfl) ?_ HC.out ?_
    rotate_left
    · intro W hW; obtain ⟨L0, L1, L2, M0, M1, M2, N0, N1, N2, RA, RO, RT, RL, BA⟩ := HL.out W hW; go_simp <;> with_reducible rfl
    simp only [Act.put, List.setIfInBounds_toArray, List.set_cons_zero, List.set_cons_succ]
    refine takeH (i := 37) (v := ?_) rfl (by kernel_rfl) (by kernel_rfl) (by kernel_rfl) (fun _ _ _ h => h) (by rfl) ?_ HC.out ?_
    rotate_left
    · intro W hW; obtain ⟨L0, L1, L2, M0, M1, M2, N0, N1, N2, RA, RO, RT, RL, BA⟩ := HL.out W hW; go_simp <;> with_reducible rfl
    simp only [Act.put, List.setIfInBounds_toArray, List.set_cons_zero, List.set_cons_succ]
    refine wpAnyH_done (by kernel_rfl) ?_ _
    have BF := Lib.hid (HL.out _ HC.out).2.2.2.2.2.2.2.2.2.2.2.2.2
    go_wp2_with fail
    go_ret
    exact ⟨rfl, BF.out⟩
  · rcases hErr with ⟨rfl, rfl, rfl, rfl, rfl⟩ | ⟨rfl, rfl, rfl, rfl, rfl⟩
    all_goals
      obtain rfl : n1 = K := HN1.out.symm.trans HKK.out
      clear HCase
      obtain ⟨u0, u1, u2⟩ := HD_6.out.box.cells3
      obtain ⟨v0, v1, v2⟩ := HB5_6.out.cells3
      go_wp2_with (rw [HW8.out]; clear y0 y1 y2 f0 f1 f2 HW8)
      refine (HSd.out _ _ _ (Rd.of_own HO5_6.out) HC5.out HD_6.out.rd).mono ?_
      rintro e w9 ⟨rfl, d9⟩
      have HAl9 := Lib.hid ((HAl_6.out.below d9).more d9.size)
      have HE9 := Lib.hid (HD_6.out.below.trans (d9.mono HD_6.out.below.size))
      clear d9 u0 u1 u2 v0 v1 v2
      go_wp2_with fail
      refine (HAll.out _ _ _ HAl9.out).mono ?_
      rintro e w10 ⟨rfl, d10⟩
      have HE10 := Lib.hid (HE9.out.trans (d10.mono HE9.out.size))
      clear d10
      go_wp2_with fail
      refine (wakesL_any _).mono ?_
      rintro e w11 ⟨rfl, d11⟩
      have HE11 := Lib.hid (HE10.out.trans (d11.mono HE10.out.size))
      clear d11
      go_wp2_with fail
      go_ret
      exact ⟨rfl, HE11.out⟩

theorem logParts_walk (A : Option Addr) (n c : Nat) (s r : Int) (bs : List Nat) (Al : Option Addr) (nl cl : Nat) (el : List RE) (Am : Option Addr) (nm cm : Nat) (em : List RE) (w : World) (hr : Rd w w.heap.size A n (bv bs)) (hby : ∀ x ∈ bs, x < 256) (hc : n ≤ c) (hl : RdR w w.heap.size Al nl el) (hm : RdR w w.heap.size Am nm em) :
    Calls Try.prog 6 #[diskV A n c s r, .slice Al nl cl, .slice Am nm cm] w (TruePost w) := by
  cases hg : greatL n el
  · cases hg2 : greatL n em
    · by_cases h30 : nl + nm ≤ 30
      · obtain ⟨⟨ob, S, R⟩, hD⟩ : ∃ D, cnt bs s r = D := ⟨_, rfl⟩
        obtain ⟨L, hL⟩ : ∃ L, recsOf el = L := ⟨_, rfl⟩
        obtain ⟨M, hM⟩ : ∃ M, recsOf em = M := ⟨_, rfl⟩
        obtain ⟨⟨⟨b1, S1, R1⟩, E⟩, hA1⟩ : ∃ x, addD (L ++ M) ⟨ob, S, R⟩ = x := ⟨_, rfl⟩
        obtain ⟨⟨⟨b2, S2, R2⟩, F⟩, hA2⟩ : ∃ x, addD L ⟨ob, S, R⟩ = x := ⟨_, rfl⟩
        obtain ⟨⟨⟨b3, S3, R3⟩, G⟩, hA3⟩ : ∃ x, addD M ⟨b2, S2, R2⟩ = x := ⟨_, rfl⟩
        refine logParts_in A n c s r bs Al nl cl el Am nm cm em w hr hc hby hl hm hg hg2 h30 L M hL hM ob S R hD _ rfl b1 b2 b3 S1 R1 S2 R2 S3 R3 _ _ _ E F G _ hA1 hA2 hA3 rfl rfl rfl rfl (lbytes L).length (lbytes M).length ?_
        rcases addD_cases L M ⟨ob, S, R⟩ with ⟨h1, h2, h3, h4, h5, h6⟩ | ⟨h1, h2⟩ | ⟨h1, h2⟩
        · left
          rw [hA1] at h4
          rw [hA2] at h5
          simp only [Prod.mk.injEq, Dk.mk.injEq] at h4 h5
          obtain ⟨⟨rfl, rfl, rfl⟩, rfl⟩ := h4
          obtain ⟨⟨rfl, rfl, rfl⟩, rfl⟩ := h5
          rw [hA3] at h6
          simp only [Prod.mk.injEq, Dk.mk.injEq] at h6
          obtain ⟨⟨rfl, rfl, rfl⟩, rfl⟩ := h6
          exact ⟨rfl, rfl, rfl, rfl, rfl, rfl, h1, h2, rfl, rfl, by simp only [List.length_append]⟩
        · right; left
          rw [hA1] at h2
          simp only [Prod.mk.injEq, Dk.mk.injEq] at h2
          obtain ⟨⟨rfl, rfl, rfl⟩, rfl⟩ := h2
          exact ⟨rfl, h1, rfl, rfl, rfl⟩
        · right; right
          rw [hA1] at h2
          simp only [Prod.mk.injEq, Dk.mk.injEq] at h2
          obtain ⟨⟨rfl, rfl, rfl⟩, rfl⟩ := h2
          exact ⟨rfl, h1, rfl, rfl, rfl⟩
      · exact logParts_out3 A n c s r Al nl cl el Am nm cm em w hl hm hg hg2 (by omega)
    · exact logParts_out2 A n c s r Al nl cl el Am nm cm em w hl hm hg hg2
  · exact logParts_out1 A n c s r Al nl cl el Am nm cm em w hl hm hg

end Go.Proofs.Ytbkfpghpfaemeaa
