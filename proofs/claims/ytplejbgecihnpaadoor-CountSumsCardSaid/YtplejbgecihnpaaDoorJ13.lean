/-
  Texts that the walks of the statements over logs lean on, joined (CtRefOf). Conditions: those that each theorem names.
-/
import Derived.Test.YtplejbgecihnpaaDoorJ7
import Derived.Test.YtplejbgecihnpaaDoorJ8
import Derived.Test.YtplejbgecihnpaaDoorJ12
import Derived.Deep.MidRow
import Derived.Deep.DeepCutAuto

/-
  The walk of the document's own 'Of' of counts. Conditions: those that the theorem names.
-/
namespace Go.Proofs.YtplejbgecihnpaaDoor
open Go.RowKit Go.Shelf

theorem wrapS {n : Int} (h0 : 0 ≤ n) (h1 : n ≤ 9000000000000000) : IntKind.i64.wrap n = n := by
  simp only [IntKind.wrap, IntKind.bits, IntKind.signed]
  simp
  split <;> omega
def cn0 : Cn := ⟨0, 0, 0, 0, 0, 0, 0, 0, 0⟩
def CboxIs (lo : Nat) (v : Value) (w : World) : Prop := ∃ b, v = .pointer (some ⟨b, 0, none⟩) ∧ lo ≤ b ∧ Whole w b 38 cn0.cells
theorem CboxIs.under {lo : Nat} {v : Value} {w w' : World} (hb : Below w.heap.size w w') (h : CboxIs lo v w) : CboxIs lo v w' := by
  obtain ⟨b, h1, h2, h3⟩ := h
  exact ⟨b, h1, h2, h3.under hb⟩
/-- The end of a function that tells counts out of a box. -/
theorem count_end {fn : Func} {k b : Nat} (hres : fn.results = #[.cell k 38]) {tm : Array Value} {W : World} {cs : Array Value} {R : Ending → World → Prop} (h2 : tm[k]? = some (.pointer (some ⟨b, 0, none⟩))) (hw : Whole W b 38 cs) (hcs : cs.size = 9) (hR : R (.returned (.agg cs)) W) : bodyPost Tryd.prog fn R .ret { tmps := tm, defers := [] } W := by
  have hl := run_loadVar_row (P := Tryd.prog) W b 38 38 cs (0, 0) _ hw Tryd.underlying38 rfl (by rw [hcs]; kernel_rfl)
  refine bodyPost_ret (v := .agg cs) ?_ rfl hR
  simp [results, hres, h2, hl, asAddr]
section
variable {P : Program} {K : Act → World → Prop} {Q : Exit → Act → World → Prop} {a : Act} {w : World} {o : Oper}
theorem opQ (v : Value) (he : (execOp a.eval o).run P w = .ok (.value v) w) (h : K (a.put o.dst v) w) : o.wp P a w K Q := by
  unfold Oper.wp
  rw [he]
  exact h
theorem wp_storeC (x y : Operand) (ho : o.op = .store 38 x y) (g : Nat) (c : Cn) (old : Array Value) (hs : old.size = 9)
    (hx : a.eval x = .pointer (some ⟨g, 0, none⟩)) (hy : a.eval y = c.v) (hW : Whole w g 38 old) (h : ∀ W2, W2 = w.setRow g c.cells → K (a.put o.dst undef) W2) : o.wp Tryd.prog a w K Q := by
  refine wp_store_at 38 x y ho g 0 c.cells hx hy 38 old hW (by kernel_rfl) (by rw [hs]; exact Nat.le_refl _) (by simp [Value.oneCell']) (h _ ?_)
  have e : old.toList.drop (0 + c.cells.size) = [] := List.drop_of_length_le (by rw [Array.length_toList, hs]; exact Nat.le_refl _)
  rw [e]
  simp
end
theorem cf_range {W : World} {g : Nat} {p : Br} {a : Ad} (h : Whole W g 30 (brC p a)) : W.rangeAt g 3 (cfM p a).cells.toList := by
  intro j v hv
  rw [h.cell (3 + j)]
  have hj : j < 15 := by
    have := (List.getElem?_eq_some_iff.1 hv).1
    simpa using this
  rcases (by omega : j = 0 ∨ j = 1 ∨ j = 2 ∨ j = 3 ∨ j = 4 ∨ j = 5 ∨ j = 6 ∨ j = 7 ∨ j = 8 ∨ j = 9 ∨ j = 10 ∨ j = 11 ∨ j = 12 ∨ j = 13 ∨ j = 14) with rfl | rfl | rfl | rfl | rfl | rfl | rfl | rfl | rfl | rfl | rfl | rfl | rfl | rfl | rfl
  all_goals exact hv

/-- Counts on the way: of the first j that are meant. -/
def cA (p : Br) (j : Nat) : Cn := ⟨verB p, itOld p (p.its.take j), itSt (p.its.take j), itWarm (p.its.take j), p.its.length + p.kps.length, 0, 0, floorOf p.cf, boundOf p.cf⟩
/-- .. and of the first j that are kept. -/
def cK (p : Br) (j : Nat) : Cn := ⟨verB p, itOld p p.its + kpOld p (p.kps.take j), itSt p.its + kpSt (p.kps.take j), itWarm p.its + kpWarm (p.kps.take j), p.its.length + p.kps.length, kpServe (p.kps.take j), 0, floorOf p.cf, boundOf p.cf⟩
structure CtAt (p : Br) (a : Ad) (b : Nat) (w : World) (c : Cn) (W : World) : Prop where
  br : Whole W w.heap.size 30 (brC p a)
  res : Whole W (w.heap.size + 1) 38 cn0.cells
  bx : Whole W b 38 c.cells
  below : Below w.heap.size w W
theorem Only.row {W : World} {g : Nat} {t : TypeId} {cs : Array Value} (_h : Whole W g t cs) (c' : Array Value) : Only g W (W.setRow g c') :=
  ⟨⟨rfl, rfl, rfl, Nat.le_of_eq (setRow_size W g c').symm, fun k _ hkg => setRow_other W g k c' (fun e => hkg (by rw [e]))⟩, setRow_size W g c', ⟨Nat.le_of_eq (setRow_size W g c').symm, fun i o ho hc => by
    by_cases e : i = g
    · subst e
      have h := _h
      unfold Whole at h
      rw [h] at ho
      cases ho
      cases hc
    · exact (setRow_other W g i c' e).trans ho⟩⟩
theorem cA_next {p : Br} {j : Nat} {y : It} (hy : p.its[j]? = some y) : cA p (j + 1) = { cA p j with old := (cA p j).old + (if oldI p y then 1 else 0), st := (cA p j).st + (if y.warm then 0 else 1), warm := (cA p j).warm + (if y.warm then 1 else 0) } := by
  simp only [cA, itOld, itSt, itWarm, countP_next _ hy]
  cases y.warm <;> rfl
theorem cK_next {p : Br} {j : Nat} {y : Kp} (hy : p.kps[j]? = some y) : cK p (j + 1) = { cK p j with old := (cK p j).old + (if oldK p y then 1 else 0), st := (cK p j).st + (if standsI y.phase then 1 else 0), warm := (cK p j).warm + (if y.phase = 9 then 1 else 0), serve := (cK p j).serve + (if y.phase = 4 then 1 else 0) } := by
  simp only [cK, kpOld, kpSt, kpWarm, kpServe, countP_next _ hy, Nat.add_assoc, decide_eq_true_eq]
theorem countB_eq (p : Br) : countB p = { cK p p.kps.length with want := wantB p } := by simp [countB, cK, oldB]
theorem cA_end (p : Br) : cA p p.its.length = cK p 0 := by simp [cA, cK, itOld, itSt, itWarm, kpOld, kpSt, kpWarm, kpServe]
theorem cA_le (p : Br) (j : Nat) : (cA p j).old ≤ p.its.length ∧ (cA p j).st ≤ p.its.length ∧ (cA p j).warm ≤ p.its.length := ⟨countP_le' _ _ _, countP_le' _ _ _, countP_le' _ _ _⟩
theorem cK_le (p : Br) (j : Nat) : (cK p j).old ≤ p.its.length + p.kps.length ∧ (cK p j).st ≤ p.its.length + p.kps.length ∧ (cK p j).warm ≤ p.its.length + p.kps.length ∧ (cK p j).serve ≤ p.kps.length := by
  have h1 := countP_le' (oldI p) p.its p.its.length
  have h2 := countP_le' (fun x : It => !x.warm) p.its p.its.length
  have h3 := countP_le' It.warm p.its p.its.length
  rw [List.take_length] at h1 h2 h3
  exact ⟨Nat.add_le_add h1 (countP_le' _ _ _), Nat.add_le_add h2 (countP_le' _ _ _), Nat.add_le_add h3 (countP_le' _ _ _), countP_le' _ _ _⟩
section
variable {p : Br} {a : Ad} {b : Nat} {w W W' : World} {c c' : Cn}
theorem CtAt.under (h : CtAt p a b w c W) (hb : Below W.heap.size W W') : CtAt p a b w c W' := ⟨h.br.under hb, h.res.under hb, h.bx.under hb, h.below.trans (hb.mono h.below.size)⟩
theorem CtAt.set (h : CtAt p a b w c W) (hb : w.heap.size + 1 + 1 ≤ b) (k : Nat) (v : Value) (e : c.cells.setIfInBounds k v = c'.cells) : CtAt p a b w c' (W.setCell ⟨b, k, none⟩ v) := by
  have k1 := Only.set W b k v
  refine ⟨k1.far h.br (by omega), k1.far h.res (by omega), ?_, k1.bel h.below (by omega)⟩
  have h1 := h.bx.set k v
  rw [e] at h1
  exact h1
theorem CtAt.inc1 (h : CtAt p a b w c W) (hb : w.heap.size + 1 + 1 ≤ b) : CtAt p a b w { c with old := c.old + 1 } (W.setCell ⟨b, 1, none⟩ (.int .i64 ((c.old : Int) + 1))) := h.set hb 1 _ rfl
theorem CtAt.inc2 (h : CtAt p a b w c W) (hb : w.heap.size + 1 + 1 ≤ b) : CtAt p a b w { c with st := c.st + 1 } (W.setCell ⟨b, 2, none⟩ (.int .i64 ((c.st : Int) + 1))) := h.set hb 2 _ rfl
theorem CtAt.inc3 (h : CtAt p a b w c W) (hb : w.heap.size + 1 + 1 ≤ b) : CtAt p a b w { c with warm := c.warm + 1 } (W.setCell ⟨b, 3, none⟩ (.int .i64 ((c.warm : Int) + 1))) := h.set hb 3 _ rfl
theorem CtAt.inc5 (h : CtAt p a b w c W) (hb : w.heap.size + 1 + 1 ≤ b) : CtAt p a b w { c with serve := c.serve + 1 } (W.setCell ⟨b, 5, none⟩ (.int .i64 ((c.serve : Int) + 1))) := h.set hb 5 _ rfl
end

set_option maxRecDepth 100000 in
set_option maxHeartbeats 4000000 in
theorem refOf_count_any (p : Br) (a : Ad) (Z : Nat) (w : World) (hr : RdB_ w Z p a) (hZ : Z ≤ w.heap.size) (hni : p.its.length ≤ 1000) (hnk : p.kps.length ≤ 1000) (hnm : p.cf.ms.length ≤ 1000) :
    Calls Tryd.prog 11 #[brV p a] w fun e w' => e = .returned (countB p).v ∧ Below w.heap.size w w' := by
  obtain ⟨hb, w0, w1⟩ := two_new w 30 38 (brC p a) cn0.cells
  obtain ⟨V, hV⟩ : ∃ V, (w.alloc (.cells (brC p a) 30)).alloc (.cells cn0.cells 38) = V := ⟨_, rfl⟩
  have hs : V.heap.size = w.heap.size + 1 + 1 := by rw [← hV]; simp
  rw [hV] at hb w0 w1
  have HR := Lib.hid ((hr.more hZ).up hb)
  have HRw0 := Lib.hid (hr.more hZ)
  have HB := Lib.hid hb
  have HV := Lib.hid hV
  have W0 := Lib.hid w0
  have W1 := Lib.hid w1
  have HS := Lib.hid hs
  clear hb w0 w1 hr hZ hs hV
  go_enter Tryd.func11, Tryd.ntmps11
  go_upto_region 1 with fail
  refine wpV (fun V2 hV2 => ?_)
  obtain rfl : V = V2 := HV.out.symm.trans hV2
  clear HV hV2
  refine region_grow (by kernel_rfl) (by kernel_rfl) 17 [7, 8, 9, 10, 11, 12, 13, 14, 15, 16, 17, 18, 19, 20, 21, 22, 3] (by kernel_rfl) (by simp)
    (fun i v w' => match i with | 0 => v = brV p a | 1 => v = .int .i64 (verB p) | 2 => v = .pointer (some ⟨w.heap.size, 18, none⟩) | 3 => v = .slice a.A p.its.length a.c | 4 => v = .int .i64 (p.its.length : Int) | 5 => v = .pointer (some ⟨w.heap.size, 19, none⟩) | 6 => v = .slice a.B p.kps.length a.d | 7 => v = .int .i64 (p.kps.length : Int) | 8 => v = .int .i64 ((p.its.length + p.kps.length : Nat) : Int) | 9 => v = .pointer (some ⟨w.heap.size, 3, none⟩) | 10 => v = (cfM p a).v | 11 => v = .int .i64 (floorOf p.cf) | 12 => v = .pointer (some ⟨w.heap.size, 3, none⟩) | 13 => v = (cfM p a).v | 14 => v = .int .i64 (boundOf p.cf) | 15 => v = Cn.v ⟨verB p, 0, 0, 0, p.its.length + p.kps.length, 0, 0, floorOf p.cf, boundOf p.cf⟩ | 16 => CboxIs V.heap.size v w' | _ => True) ?_ ?_ ?_
  · intro i v w1 w2 hb h
    match i, h with
    | 0, h => exact h
    | 1, h => exact h
    | 2, h => exact h
    | 3, h => exact h
    | 4, h => exact h
    | 5, h => exact h
    | 6, h => exact h
    | 7, h => exact h
    | 8, h => exact h
    | 9, h => exact h
    | 10, h => exact h
    | 11, h => exact h
    | 12, h => exact h
    | 13, h => exact h
    | 14, h => exact h
    | 15, h => exact h
    | 16, h => exact CboxIs.under hb h
    | n + 17, h => trivial
  · intro i o d a' w' hi ho hd hag hbel hgot K hK
    have g1 : a'.eval (.tmp 1) = .pointer (some ⟨w.heap.size, 0, none⟩) := hag.eval (t := 1) (by decide)
    have t1 : a'.tmps[1]?.getD undef = .pointer (some ⟨w.heap.size, 0, none⟩) := by rw [← Array.getD_eq_getD_getElem?]; exact g1
    have HWb := Lib.hid (W0.out.under hbel)
    rcases (by omega : i = 0 ∨ i = 1 ∨ i = 2 ∨ i = 3 ∨ i = 4 ∨ i = 5 ∨ i = 6 ∨ i = 7 ∨ i = 8 ∨ i = 9 ∨ i = 10 ∨ i = 11 ∨ i = 12 ∨ i = 13 ∨ i = 14 ∨ i = 15 ∨ i = 16) with rfl | rfl | rfl | rfl | rfl | rfl | rfl | rfl | rfl | rfl | rfl | rfl | rfl | rfl | rfl | rfl | rfl
    all_goals
      simp only [List.getElem?_toArray, List.getElem?_cons_zero, List.getElem?_cons_succ, Option.some.injEq] at ho
      subst ho
      injection hd with hd
      subst hd
    · exact opB_load g1 HWb.out (hK _ _ (Below.refl _ _) rfl)
    · clear g1
      have g7 : a'.eval (.tmp 7) = brV p a := hgot 0 7 (by kernel_rfl) rfl
      have e7 : a'.tmps[7]?.getD undef = brV p a := by rw [← Array.getD_eq_getD_getElem?]; exact g7
      clear g7
      go_simp
      refine (refVer_any p a w').mono ?_
      rintro e w2 ⟨rfl, hb2⟩
      exact hK _ _ hb2 rfl
    · clear g1
      refine opQ (.pointer (some ⟨w.heap.size, 18, none⟩)) ?_ (hK _ _ (Below.refl _ _) rfl)
      go_simp <;> with_reducible rfl
    · clear g1
      have g9 : a'.eval (.tmp 9) = .pointer (some ⟨w.heap.size, 18, none⟩) := hgot 2 9 (by kernel_rfl) rfl
      have e9 : a'.tmps[9]?.getD undef = .pointer (some ⟨w.heap.size, 18, none⟩) := by rw [← Array.getD_eq_getD_getElem?]; exact g9
      clear g9
      have c18 : w'.cell? ⟨w.heap.size, 18, none⟩ = some (.slice a.A p.its.length a.c) := HWb.out.cell 18
      refine opQ (.slice a.A p.its.length a.c) ?_ (hK _ _ (Below.refl _ _) rfl)
      go_simp <;> with_reducible rfl
    · clear g1
      have g10 : a'.eval (.tmp 10) = .slice a.A p.its.length a.c := hgot 3 10 (by kernel_rfl) rfl
      have e10 : a'.tmps[10]?.getD undef = .slice a.A p.its.length a.c := by rw [← Array.getD_eq_getD_getElem?]; exact g10
      clear g10
      refine opQ (.int .i64 (p.its.length : Int)) ?_ (hK _ _ (Below.refl _ _) rfl)
      go_simp <;> with_reducible rfl
    · clear g1
      refine opQ (.pointer (some ⟨w.heap.size, 19, none⟩)) ?_ (hK _ _ (Below.refl _ _) rfl)
      go_simp <;> with_reducible rfl
    · clear g1
      have g12 : a'.eval (.tmp 12) = .pointer (some ⟨w.heap.size, 19, none⟩) := hgot 5 12 (by kernel_rfl) rfl
      have e12 : a'.tmps[12]?.getD undef = .pointer (some ⟨w.heap.size, 19, none⟩) := by rw [← Array.getD_eq_getD_getElem?]; exact g12
      clear g12
      have c19 : w'.cell? ⟨w.heap.size, 19, none⟩ = some (.slice a.B p.kps.length a.d) := HWb.out.cell 19
      refine opQ (.slice a.B p.kps.length a.d) ?_ (hK _ _ (Below.refl _ _) rfl)
      go_simp <;> with_reducible rfl
    · clear g1
      have g13 : a'.eval (.tmp 13) = .slice a.B p.kps.length a.d := hgot 6 13 (by kernel_rfl) rfl
      have e13 : a'.tmps[13]?.getD undef = .slice a.B p.kps.length a.d := by rw [← Array.getD_eq_getD_getElem?]; exact g13
      clear g13
      refine opQ (.int .i64 (p.kps.length : Int)) ?_ (hK _ _ (Below.refl _ _) rfl)
      go_simp <;> with_reducible rfl
    · clear g1
      have g11 : a'.eval (.tmp 11) = .int .i64 (p.its.length : Int) := hgot 4 11 (by kernel_rfl) rfl
      have e11 : a'.tmps[11]?.getD undef = .int .i64 (p.its.length : Int) := by rw [← Array.getD_eq_getD_getElem?]; exact g11
      clear g11
      have g14 : a'.eval (.tmp 14) = .int .i64 (p.kps.length : Int) := hgot 7 14 (by kernel_rfl) rfl
      have e14 : a'.tmps[14]?.getD undef = .int .i64 (p.kps.length : Int) := by rw [← Array.getD_eq_getD_getElem?]; exact g14
      clear g14
      have h8 : IntKind.i64.wrap ((p.its.length : Int) + (p.kps.length : Int)) = (p.its.length : Int) + (p.kps.length : Int) := wrapS (by omega) (by omega)
      refine opQ (.int .i64 ((p.its.length + p.kps.length : Nat) : Int)) ?_ (hK _ _ (Below.refl _ _) rfl)
      go_simp <;> with_reducible rfl
    · clear g1
      refine opQ (.pointer (some ⟨w.heap.size, 3, none⟩)) ?_ (hK _ _ (Below.refl _ _) rfl)
      go_simp <;> with_reducible rfl
    · clear g1
      have e16 := hgot 9 16 (by kernel_rfl) rfl
      exact wp_load_mid 24 _ rfl w.heap.size 3 e16 (cfM p a).cells.toList _ (cf_range HWb.out) Tryd.underlying24 rfl (by kernel_rfl) (hK _ _ (Below.refl _ _) rfl)
    · clear g1
      have g17 : a'.eval (.tmp 17) = (cfM p a).v := hgot 10 17 (by kernel_rfl) rfl
      have e17 : a'.tmps[17]?.getD undef = (cfM p a).v := by rw [← Array.getD_eq_getD_getElem?]; exact g17
      clear g17
      have HLi := Lib.hid (HR.out.up hbel).lies
      go_simp
      refine (refFloorC_any (cfM p a) w' HLi.out hnm).mono ?_
      rintro e w2 ⟨rfl, hb2⟩
      exact hK _ _ hb2 rfl
    · clear g1
      refine opQ (.pointer (some ⟨w.heap.size, 3, none⟩)) ?_ (hK _ _ (Below.refl _ _) rfl)
      go_simp <;> with_reducible rfl
    · clear g1
      have e19 := hgot 12 19 (by kernel_rfl) rfl
      exact wp_load_mid 24 _ rfl w.heap.size 3 e19 (cfM p a).cells.toList _ (cf_range HWb.out) Tryd.underlying24 rfl (by kernel_rfl) (hK _ _ (Below.refl _ _) rfl)
    · clear g1
      have g20 : a'.eval (.tmp 20) = (cfM p a).v := hgot 13 20 (by kernel_rfl) rfl
      have e20 : a'.tmps[20]?.getD undef = (cfM p a).v := by rw [← Array.getD_eq_getD_getElem?]; exact g20
      clear g20
      have HLi := Lib.hid (HR.out.up hbel).lies
      go_simp
      refine (refBoundC_any (cfM p a) w' HLi.out hnm).mono ?_
      rintro e w2 ⟨rfl, hb2⟩
      exact hK _ _ hb2 rfl
    · clear g1
      have g8 : a'.eval (.tmp 8) = .int .i64 (verB p) := hgot 1 8 (by kernel_rfl) rfl
      have e8 : a'.tmps[8]?.getD undef = .int .i64 (verB p) := by rw [← Array.getD_eq_getD_getElem?]; exact g8
      clear g8
      have g15 : a'.eval (.tmp 15) = .int .i64 ((p.its.length + p.kps.length : Nat) : Int) := hgot 8 15 (by kernel_rfl) rfl
      have e15 : a'.tmps[15]?.getD undef = .int .i64 ((p.its.length + p.kps.length : Nat) : Int) := by rw [← Array.getD_eq_getD_getElem?]; exact g15
      clear g15
      have g18 : a'.eval (.tmp 18) = .int .i64 (floorOf p.cf) := hgot 11 18 (by kernel_rfl) rfl
      have e18 : a'.tmps[18]?.getD undef = .int .i64 (floorOf p.cf) := by rw [← Array.getD_eq_getD_getElem?]; exact g18
      clear g18
      have g21 : a'.eval (.tmp 21) = .int .i64 (boundOf p.cf) := hgot 14 21 (by kernel_rfl) rfl
      have e21 : a'.tmps[21]?.getD undef = .int .i64 (boundOf p.cf) := by rw [← Array.getD_eq_getD_getElem?]; exact g21
      clear g21
      refine opQ (Cn.v ⟨verB p, 0, 0, 0, p.its.length + p.kps.length, 0, 0, floorOf p.cf, boundOf p.cf⟩) ?_ (hK _ _ (Below.refl _ _) rfl)
      go_simp <;> with_reducible rfl
    · clear g1
      have hw := Whole.new w' 38 cn0.cells
      have hb : Below w'.heap.size w' (w'.alloc (.cells cn0.cells 38)) := (Below.refl _ _).alloc (Nat.le_refl _) _
      have HW9 := Lib.hid hw
      have HB9 := Lib.hid hb
      clear hw hb
      unfold Oper.wp execOp
      go_simp
      exact hK _ _ HB9.out ⟨_, rfl, hbel.size, HW9.out⟩
  intro o a' w1_ ho hag hbel hgot K hK
  simp only [List.getElem?_toArray, List.getElem?_cons_zero, List.getElem?_cons_succ, Option.some.injEq] at ho
  subst ho
  obtain ⟨b3, e3, hlo3, hw3⟩ := hgot 16 3 (by decide) rfl
  have e22 := hgot 15 22 (by decide) rfl
  refine wp_storeC _ _ rfl b3 _ _ (by rfl) e3 e22 hw3 (fun U hU => hK _ _ ?_)
  have X0 := Lib.hid (show CtAt p a b3 w (cA p 0) U from ⟨by rw [hU]; exact (Only.row hw3 _).far (W0.out.under hbel) (by have := HS.out; omega), by rw [hU]; exact (Only.row hw3 _).far (W1.out.under hbel) (by have := HS.out; omega), by rw [hU]; exact setRow_heap _ _ _ _ _ _ hw3, HB.out.trans (by rw [hU]; exact (below_rowsetB hbel hlo3 _).mono HB.out.size)⟩)
  have HG := Lib.hid (show w.heap.size + 1 + 1 ≤ b3 by have := HS.out; omega)
  have HRw := Lib.hid (show ∀ W, Below w.heap.size w W → RdB_ W w.heap.size p a from fun W hW => HRw0.out.below hW)
  obtain ⟨σ, hσ⟩ : ∃ σ : Nat → Value, (fun d => a'.eval (.tmp d)) = σ := ⟨_, rfl⟩
  have ha := hag.lay (by simp)
  rw [hσ] at ha
  have s_ : σ 3 = .pointer (some ⟨b3, 0, none⟩) := by rw [← hσ]; exact e3
  clear hσ hag hgot hK hbel e3 e22 hw3 hlo3 hU HR W0 W1 HB HS HRw0
  subst ha
  simp only [lay, List.foldl_cons, List.foldl_nil, Act.put, List.setIfInBounds_toArray, List.set_cons_zero, List.set_cons_succ, s_]
  clear s_
  obtain ⟨u7, hu7⟩ : ∃ u, σ 7 = u := ⟨_, rfl⟩
  rw [hu7]
  clear hu7
  obtain ⟨u8, hu8⟩ : ∃ u, σ 8 = u := ⟨_, rfl⟩
  rw [hu8]
  clear hu8
  obtain ⟨u9, hu9⟩ : ∃ u, σ 9 = u := ⟨_, rfl⟩
  rw [hu9]
  clear hu9
  obtain ⟨u10, hu10⟩ : ∃ u, σ 10 = u := ⟨_, rfl⟩
  rw [hu10]
  clear hu10
  obtain ⟨u11, hu11⟩ : ∃ u, σ 11 = u := ⟨_, rfl⟩
  rw [hu11]
  clear hu11
  obtain ⟨u12, hu12⟩ : ∃ u, σ 12 = u := ⟨_, rfl⟩
  rw [hu12]
  clear hu12
  obtain ⟨u13, hu13⟩ : ∃ u, σ 13 = u := ⟨_, rfl⟩
  rw [hu13]
  clear hu13
  obtain ⟨u14, hu14⟩ : ∃ u, σ 14 = u := ⟨_, rfl⟩
  rw [hu14]
  clear hu14
  obtain ⟨u15, hu15⟩ : ∃ u, σ 15 = u := ⟨_, rfl⟩
  rw [hu15]
  clear hu15
  obtain ⟨u16, hu16⟩ : ∃ u, σ 16 = u := ⟨_, rfl⟩
  rw [hu16]
  clear hu16
  obtain ⟨u17, hu17⟩ : ∃ u, σ 17 = u := ⟨_, rfl⟩
  rw [hu17]
  clear hu17
  obtain ⟨u18, hu18⟩ : ∃ u, σ 18 = u := ⟨_, rfl⟩
  rw [hu18]
  clear hu18
  obtain ⟨u19, hu19⟩ : ∃ u, σ 19 = u := ⟨_, rfl⟩
  rw [hu19]
  clear hu19
  obtain ⟨u20, hu20⟩ : ∃ u, σ 20 = u := ⟨_, rfl⟩
  rw [hu20]
  clear hu20
  obtain ⟨u21, hu21⟩ : ∃ u, σ 21 = u := ⟨_, rfl⟩
  rw [hu21]
  clear hu21
  obtain ⟨u22, hu22⟩ : ∃ u, σ 22 = u := ⟨_, rfl⟩
  rw [hu22]
  clear hu22
  clear σ
  go_wp2_with fail
  go_loopw [4] (fun i wr => ∃ j : Nat, i = .int .i64 (j : Int) ∧ j ≤ p.its.length ∧ CtAt p a b3 w (cA p j) wr) (fun i _ => p.its.length - (intOf i).toNat)
  case atStart => exact ⟨0, rfl, Nat.zero_le _, X0.out⟩
  case round =>
    obtain ⟨j, rfl, hj, hX⟩ := hrel
    have HX := Lib.hid hX
    clear hX
    have c18 : wr.cell? ⟨w.heap.size, 18, none⟩ = some (.slice a.A p.its.length a.c) := HX.out.br.cell 18
    by_cases hlt : j < p.its.length
    · obtain ⟨b1, off1, h1, hb1, hc⟩ := RdI.at_ (HRw.out w (Below.refl _ _)).its (by omega)
      obtain ⟨y, hy⟩ : ∃ y, p.its[j]? = some y := ⟨_, List.getElem?_eq_getElem hlt⟩
      have HC := Lib.hid (hc j y hy)
      have HY := Lib.hid hy
      have hI : (j : Int) < (p.its.length : Int) := by omega
      have HBb := Lib.hid hb1
      have HBw := Lib.hid HX.out.below
      rw [h1] at c18
      obtain ⟨bo, hbo⟩ : ∃ b, oldI p y = b := ⟨_, rfl⟩
      have HO := Lib.hid hbo
      clear hc hy hb1 hbo
      go_upto_region 5 with fail
      clear c18
      have HL : Hid (∀ V', Below wr.heap.size wr V' → Whole V' w.heap.size 30 (brC p a) ∧ V'.cell? ⟨w.heap.size, 18, none⟩ = some (.slice (some ⟨b1, off1, none⟩) p.its.length a.c) ∧ V'.cell? ⟨b1, off1 + j * 4, none⟩ = some (.int .i64 y.tok) ∧ V'.cell? ⟨b1, off1 + j * 4 + 1, none⟩ = some (.int .i64 y.ver) ∧ V'.cell? ⟨b1, off1 + j * 4 + 2, none⟩ = some (.int .i64 y.zone) ∧ V'.cell? ⟨b1, off1 + j * 4 + 3, none⟩ = some (.bool y.warm)) := Lib.hid (fun V' hV => ⟨HX.out.br.under hV, by rw [← h1]; exact (HX.out.br.under hV).cell 18, (hV.cell (p := ⟨b1, off1 + j * 4, none⟩) (Nat.lt_of_lt_of_le HBb.out HX.out.below.size)).trans ((HX.out.below.cell (p := ⟨b1, off1 + j * 4, none⟩) HBb.out).trans HC.out.c0), (hV.cell (p := ⟨b1, off1 + j * 4 + 1, none⟩) (Nat.lt_of_lt_of_le HBb.out HX.out.below.size)).trans ((HX.out.below.cell (p := ⟨b1, off1 + j * 4 + 1, none⟩) HBb.out).trans HC.out.c1), (hV.cell (p := ⟨b1, off1 + j * 4 + 2, none⟩) (Nat.lt_of_lt_of_le HBb.out HX.out.below.size)).trans ((HX.out.below.cell (p := ⟨b1, off1 + j * 4 + 2, none⟩) HBb.out).trans HC.out.c2), (hV.cell (p := ⟨b1, off1 + j * 4 + 3, none⟩) (Nat.lt_of_lt_of_le HBb.out HX.out.below.size)).trans ((HX.out.below.cell (p := ⟨b1, off1 + j * 4 + 3, none⟩) HBb.out).trans HC.out.c3)⟩)
      have HBd := Lib.hid (show Below wr.heap.size wr wr.drew from below_drewB (Below.refl _ _) 1)
      refine wp_region_T (ls := []) (T := (fun V' => Below wr.heap.size wr V')) (by kernel_rfl) ?_
      refine takeT (i := 0) (v := brV p a) rfl (by kernel_rfl) (by kernel_rfl) (by kernel_rfl) (by kernel_rfl) (fun _ _ _ h => h) (by rfl) ?_ HBd.out ?_
      · intro V' hV; obtain ⟨y0, y1, y2, y3, y4, y5⟩ := HL.out V' hV; exact exec_load_brain rfl y0
      simp only [Act.put, List.setIfInBounds_toArray, List.set_cons_zero, List.set_cons_succ]
      refine takeP (i := 1) (v := ?_) rfl (by kernel_rfl) (by kernel_rfl) (by kernel_rfl) (by kernel_rfl) (fun _ _ _ h => h) (by rfl) ?_ (fun _ => HBd.out) ?_
      rotate_left
      · intro V'; go_simp <;> with_reducible rfl
      simp only [Act.put, List.setIfInBounds_toArray, List.set_cons_zero, List.set_cons_succ]
      refine takeT (i := 2) (v := ?_) rfl (by kernel_rfl) (by kernel_rfl) (by kernel_rfl) (by kernel_rfl) (fun _ _ _ h => h) (by rfl) ?_ HBd.out ?_
      rotate_left
      · intro V' hV; obtain ⟨y0, y1, y2, y3, y4, y5⟩ := HL.out V' hV; go_simp <;> with_reducible rfl
      simp only [Act.put, List.setIfInBounds_toArray, List.set_cons_zero, List.set_cons_succ]
      refine takeP (i := 3) (v := ?_) rfl (by kernel_rfl) (by kernel_rfl) (by kernel_rfl) (by kernel_rfl) (fun _ _ _ h => h) (by rfl) ?_ (fun _ => HBd.out) ?_
      rotate_left
      · intro V'; go_simp <;> with_reducible rfl
      simp only [Act.put, List.setIfInBounds_toArray, List.set_cons_zero, List.set_cons_succ]
      refine takeP (i := 4) (v := ?_) rfl (by kernel_rfl) (by kernel_rfl) (by kernel_rfl) (by kernel_rfl) (fun _ _ _ h => h) (by rfl) ?_ (fun _ => HBd.out) ?_
      rotate_left
      · intro V'; go_simp <;> with_reducible rfl
      simp only [Act.put, List.setIfInBounds_toArray, List.set_cons_zero, List.set_cons_succ]
      refine takeT (i := 5) (v := ?_) rfl (by kernel_rfl) (by kernel_rfl) (by kernel_rfl) (by kernel_rfl) (fun _ _ _ h => h) (by rfl) ?_ HBd.out ?_
      rotate_left
      · intro V' hV; obtain ⟨y0, y1, y2, y3, y4, y5⟩ := HL.out V' hV; go_simp <;> with_reducible rfl
      simp only [Act.put, List.setIfInBounds_toArray, List.set_cons_zero, List.set_cons_succ]
      refine oneT (i := 6) rfl (by kernel_rfl) (by rfl) (fun K hK => ?_)
      go_simp
      refine (refMeant_any p a y wr.drew).mono ?_
      rintro e wr_1 ⟨rfl, hb_⟩
      have HB_1 := Lib.hid (show Below wr.heap.size wr wr_1 from HBd.out.trans (hb_.mono HBd.out.size))
      clear hb_ HBd
      rw [HO.out]
      refine hK.out _ _ (fun _ => HB_1.out) ?_
      clear hK K
      refine takeP (i := 7) (v := ?_) rfl (by kernel_rfl) (by kernel_rfl) (by kernel_rfl) (by kernel_rfl) (fun _ _ _ h => h) (by rfl) ?_ (fun _ => HB_1.out) ?_
      rotate_left
      · intro V'; go_simp <;> with_reducible rfl
      simp only [Act.put, List.setIfInBounds_toArray, List.set_cons_zero, List.set_cons_succ]
      refine doneT (by kernel_rfl) ?_ _
      have HX1 := Lib.hid (HX.out.under HB_1.out)
      have HLe := Lib.hid (cA_le p j)
      clear HL HB_1
      cases bo with
      | true =>
        have k1 := HX1.out.bx.cell 1
        have f1 := HX1.out.bx.frozen 1
        simp only [List.getElem?_toArray, List.getElem?_cons_zero, List.getElem?_cons_succ] at k1
        have q1 : ((cA p j).old : Int) + 1 ≤ 5000 := by have := HLe.out; omega
        go_upto_region 7 with fail
        refine wpV (fun W5 hW5 => ?_)
        have r_ : CtAt p a b3 w ({ cA p j with old := (cA p j).old + 1 }) W5 := by rw [← hW5]; exact HX1.out.inc1 HG.out
        have X5 := Lib.hid r_
        clear hW5 r_ k1 f1
        have c18 : W5.cell? ⟨w.heap.size, 18, none⟩ = some (.slice (some ⟨b1, off1, none⟩) p.its.length a.c) := by rw [← h1]; exact X5.out.br.cell 18
        have i3 : W5.cell? ⟨b1, off1 + j * 4 + 3, none⟩ = some (.bool y.warm) := (X5.out.below.cell (p := ⟨b1, off1 + j * 4 + 3, none⟩) HBb.out).trans HC.out.c3
        cases hwm : y.warm with
        | true =>
          rw [hwm] at i3
          have HM := Lib.hid hwm
          clear hwm
          have k3 := X5.out.bx.cell 3
          have f3 := X5.out.bx.frozen 3
          simp only [List.getElem?_toArray, List.getElem?_cons_zero, List.getElem?_cons_succ] at k3
          have q3 : ((cA p j).warm : Int) + 1 ≤ 5000 := by have := HLe.out; omega
          go_wp2_with fail
          go_roundw
          case rel =>
            refine ⟨j + 1, by go_num, by omega, ?_⟩
            rw [show cA p (j + 1) = { ({ cA p j with old := (cA p j).old + 1 } : Cn) with warm := (cA p j).warm + 1 } from by rw [cA_next HY.out]; simp [HO.out, HM.out]]
            exact X5.out.inc3 HG.out
          case measure => simp [intOf]; omega
        | false =>
          rw [hwm] at i3
          have HM := Lib.hid hwm
          clear hwm
          have k2 := X5.out.bx.cell 2
          have f2 := X5.out.bx.frozen 2
          simp only [List.getElem?_toArray, List.getElem?_cons_zero, List.getElem?_cons_succ] at k2
          have q2 : ((cA p j).st : Int) + 1 ≤ 5000 := by have := HLe.out; omega
          go_wp2_with fail
          go_roundw
          case rel =>
            refine ⟨j + 1, by go_num, by omega, ?_⟩
            rw [show cA p (j + 1) = { ({ cA p j with old := (cA p j).old + 1 } : Cn) with st := (cA p j).st + 1 } from by rw [cA_next HY.out]; simp [HO.out, HM.out]]
            exact X5.out.inc2 HG.out
          case measure => simp [intOf]; omega
      | false =>
        have k1 := HX1.out.bx.cell 1
        have f1 := HX1.out.bx.frozen 1
        simp only [List.getElem?_toArray, List.getElem?_cons_zero, List.getElem?_cons_succ] at k1
        go_upto_region 7 with fail
        refine wpV (fun W5 hW5 => ?_)
        have r_ : CtAt p a b3 w (cA p j) W5 := by rw [← hW5]; exact HX1.out
        have X5 := Lib.hid r_
        clear hW5 r_ k1 f1
        have c18 : W5.cell? ⟨w.heap.size, 18, none⟩ = some (.slice (some ⟨b1, off1, none⟩) p.its.length a.c) := by rw [← h1]; exact X5.out.br.cell 18
        have i3 : W5.cell? ⟨b1, off1 + j * 4 + 3, none⟩ = some (.bool y.warm) := (X5.out.below.cell (p := ⟨b1, off1 + j * 4 + 3, none⟩) HBb.out).trans HC.out.c3
        cases hwm : y.warm with
        | true =>
          rw [hwm] at i3
          have HM := Lib.hid hwm
          clear hwm
          have k3 := X5.out.bx.cell 3
          have f3 := X5.out.bx.frozen 3
          simp only [List.getElem?_toArray, List.getElem?_cons_zero, List.getElem?_cons_succ] at k3
          have q3 : ((cA p j).warm : Int) + 1 ≤ 5000 := by have := HLe.out; omega
          go_wp2_with fail
          go_roundw
          case rel =>
            refine ⟨j + 1, by go_num, by omega, ?_⟩
            rw [show cA p (j + 1) = { (cA p j : Cn) with warm := (cA p j).warm + 1 } from by rw [cA_next HY.out]; simp [HO.out, HM.out]]
            exact X5.out.inc3 HG.out
          case measure => simp [intOf]; omega
        | false =>
          rw [hwm] at i3
          have HM := Lib.hid hwm
          clear hwm
          have k2 := X5.out.bx.cell 2
          have f2 := X5.out.bx.frozen 2
          simp only [List.getElem?_toArray, List.getElem?_cons_zero, List.getElem?_cons_succ] at k2
          have q2 : ((cA p j).st : Int) + 1 ≤ 5000 := by have := HLe.out; omega
          go_wp2_with fail
          go_roundw
          case rel =>
            refine ⟨j + 1, by go_num, by omega, ?_⟩
            rw [show cA p (j + 1) = { (cA p j : Cn) with st := (cA p j).st + 1 } from by rw [cA_next HY.out]; simp [HO.out, HM.out]]
            exact X5.out.inc2 HG.out
          case measure => simp [intOf]; omega
    · have hje : j = p.its.length := by omega
      subst hje
      have hXe := HX.out
      rw [cA_end] at hXe
      have HXe := Lib.hid hXe
      have c19 : wr.cell? ⟨w.heap.size, 19, none⟩ = some (.slice a.B p.kps.length a.d) := HX.out.br.cell 19
      clear hXe HX
      go_wp2_with fail
      clear c18 c19
      go_loopw [5] (fun i wr => ∃ j : Nat, i = .int .i64 (j : Int) ∧ j ≤ p.kps.length ∧ CtAt p a b3 w (cK p j) wr) (fun i _ => p.kps.length - (intOf i).toNat)
      case atStart => exact ⟨0, rfl, Nat.zero_le _, HXe.out⟩
      case round =>
        obtain ⟨j, rfl, hj2, hX⟩ := hrel
        have HX := Lib.hid hX
        clear hX HXe
        have c19 : wr.cell? ⟨w.heap.size, 19, none⟩ = some (.slice a.B p.kps.length a.d) := HX.out.br.cell 19
        by_cases hlt2 : j < p.kps.length
        · obtain ⟨b1, off1, h1, hb1, hc⟩ := RdK.at_ (HRw.out w (Below.refl _ _)).kps (by omega)
          obtain ⟨y, hy⟩ : ∃ y, p.kps[j]? = some y := ⟨_, List.getElem?_eq_getElem hlt2⟩
          have HC := Lib.hid (hc j y hy)
          have HY := Lib.hid hy
          have hI : (j : Int) < (p.kps.length : Int) := by omega
          have HBb := Lib.hid hb1
          rw [h1] at c19
          have i0 : wr.cell? ⟨b1, off1 + j * 8, none⟩ = some (.int .i64 y.id) := (HX.out.below.cell (p := ⟨b1, off1 + j * 8, none⟩) hb1).trans HC.out.c0
          have i1 : wr.cell? ⟨b1, off1 + j * 8 + 1, none⟩ = some (.int .i64 y.tok) := (HX.out.below.cell (p := ⟨b1, off1 + j * 8 + 1, none⟩) hb1).trans HC.out.c1
          have i2 : wr.cell? ⟨b1, off1 + j * 8 + 2, none⟩ = some (.int .i64 y.ver) := (HX.out.below.cell (p := ⟨b1, off1 + j * 8 + 2, none⟩) hb1).trans HC.out.c2
          have i3 : wr.cell? ⟨b1, off1 + j * 8 + 3, none⟩ = some (.int .i64 y.zone) := (HX.out.below.cell (p := ⟨b1, off1 + j * 8 + 3, none⟩) hb1).trans HC.out.c3
          have i4 : wr.cell? ⟨b1, off1 + j * 8 + 4, none⟩ = some (.int .u8 y.phase) := (HX.out.below.cell (p := ⟨b1, off1 + j * 8 + 4, none⟩) hb1).trans HC.out.c4
          have i5 : wr.cell? ⟨b1, off1 + j * 8 + 5, none⟩ = some (.int .i64 y.since) := (HX.out.below.cell (p := ⟨b1, off1 + j * 8 + 5, none⟩) hb1).trans HC.out.c5
          have i6 : wr.cell? ⟨b1, off1 + j * 8 + 6, none⟩ = some (.bool y.guard) := (HX.out.below.cell (p := ⟨b1, off1 + j * 8 + 6, none⟩) hb1).trans HC.out.c6
          have i7 : wr.cell? ⟨b1, off1 + j * 8 + 7, none⟩ = some (.bool y.done) := (HX.out.below.cell (p := ⟨b1, off1 + j * 8 + 7, none⟩) hb1).trans HC.out.c7
          obtain ⟨bo, hbo⟩ : ∃ b, oldK p y = b := ⟨_, rfl⟩
          have HO := Lib.hid hbo
          have HLe := Lib.hid (cK_le p j)
          clear hc hy hb1 hbo
          go_upto_region 14 with fail
          refine wpV (fun W4 hW4 => ?_)
          have hb4 : Below wr.heap.size wr W4 := by rw [← hW4]; exact (Below.refl _ _).alloc (Nat.le_refl _) _
          have hk4 : Whole W4 wr.heap.size 32 y.cells := by rw [← hW4]; exact Whole.new _ _ _
          have X4 := Lib.hid (HX.out.under hb4)
          have K4 := Lib.hid hk4
          clear hW4 hb4 hk4 i0 i1 i2 i3 i4 i5 i6 i7 c19
          go_wp2_with (first | refine wpList_load_row (by rfl) 30 _ rfl w.heap.size (by rfl) 30 _ (0, 0) _ X4.out.br Tryd.underlying30 rfl (by kernel_rfl) ?_ | refine wpList_load_row (by rfl) 32 _ rfl wr.heap.size (by rfl) 32 _ (0, 0) _ K4.out Tryd.underlying32 rfl (by kernel_rfl) ?_)
          refine (refIsOld_any p a y W4).mono ?_
          rintro e W5 ⟨rfl, hb5⟩
          rw [HO.out]
          have X5 := Lib.hid (X4.out.under hb5)
          have K5 := Lib.hid (K4.out.under hb5)
          clear hb5 X4 K4 HX
          have m4 : W5.cell? ⟨wr.heap.size, 4, none⟩ = some (.int .u8 y.phase) := K5.out.cell 4
          have k1 := X5.out.bx.cell 1
          have f1 := X5.out.bx.frozen 1
          have k2 := X5.out.bx.cell 2
          have f2 := X5.out.bx.frozen 2
          have k3 := X5.out.bx.cell 3
          have f3 := X5.out.bx.frozen 3
          have k5 := X5.out.bx.cell 5
          have f5 := X5.out.bx.frozen 5
          simp only [List.getElem?_toArray, List.getElem?_cons_zero, List.getElem?_cons_succ] at k1 k2 k3 k5
          have q1 : ((cK p j).old : Int) + 1 ≤ 5000 := by have := HLe.out; omega
          have q2 : ((cK p j).st : Int) + 1 ≤ 5000 := by have := HLe.out; omega
          have q3 : ((cK p j).warm : Int) + 1 ≤ 5000 := by have := HLe.out; omega
          have q5 : ((cK p j).serve : Int) + 1 ≤ 5000 := by have := HLe.out; omega
          have hcs : y.phase = 4 ∨ y.phase = 9 ∨ (¬ y.phase = 4 ∧ ¬ y.phase = 9 ∧ standsI y.phase = true) ∨ (¬ y.phase = 4 ∧ ¬ y.phase = 9 ∧ standsI y.phase = false) := by
            by_cases h4 : y.phase = 4
            · exact .inl h4
            · by_cases h9 : y.phase = 9
              · exact .inr (.inl h9)
              · cases standsI y.phase
                · exact .inr (.inr (.inr ⟨h4, h9, rfl⟩))
                · exact .inr (.inr (.inl ⟨h4, h9, rfl⟩))
          rcases hcs with hp | hp | ⟨hp4, hp9, hs⟩ | ⟨hp4, hp9, hs⟩
          · have HP := Lib.hid hp
            rw [hp] at m4
            clear hp
            cases bo with
            | true =>
              go_wp2_with fail
              refine (refStands_any 4 _).mono ?_
              rintro e W6 ⟨rfl, hw6⟩
              subst hw6
              rw [show standsI 4 = true from rfl]
              go_wp2_with fail
              go_roundw
              case rel =>
                refine ⟨j + 1, by go_num, by omega, ?_⟩
                rw [show cK p (j + 1) = { ({ ({ (cK p j : Cn) with old := (cK p j).old + 1 } : Cn) with st := (cK p j).st + 1 } : Cn) with serve := (cK p j).serve + 1 } from by rw [cK_next HY.out]; simp [HO.out, HP.out, (show standsI 4 = true from rfl)]]
                exact (((X5.out).inc1 HG.out).inc2 HG.out).inc5 HG.out
              case measure => simp [intOf]; omega
            | false =>
              go_wp2_with fail
              refine (refStands_any 4 _).mono ?_
              rintro e W6 ⟨rfl, hw6⟩
              subst hw6
              rw [show standsI 4 = true from rfl]
              go_wp2_with fail
              go_roundw
              case rel =>
                refine ⟨j + 1, by go_num, by omega, ?_⟩
                rw [show cK p (j + 1) = { ({ (cK p j : Cn) with st := (cK p j).st + 1 } : Cn) with serve := (cK p j).serve + 1 } from by rw [cK_next HY.out]; simp [HO.out, HP.out, (show standsI 4 = true from rfl)]]
                exact ((X5.out).inc2 HG.out).inc5 HG.out
              case measure => simp [intOf]; omega
          · have HP := Lib.hid hp
            rw [hp] at m4
            clear hp
            cases bo with
            | true =>
              go_wp2_with fail
              refine (refStands_any 9 _).mono ?_
              rintro e W6 ⟨rfl, hw6⟩
              subst hw6
              rw [show standsI 9 = false from rfl]
              go_wp2_with fail
              go_roundw
              case rel =>
                refine ⟨j + 1, by go_num, by omega, ?_⟩
                rw [show cK p (j + 1) = { ({ (cK p j : Cn) with old := (cK p j).old + 1 } : Cn) with warm := (cK p j).warm + 1 } from by rw [cK_next HY.out]; simp [HO.out, HP.out, (show standsI 9 = false from rfl)]]
                exact ((X5.out).inc1 HG.out).inc3 HG.out
              case measure => simp [intOf]; omega
            | false =>
              go_wp2_with fail
              refine (refStands_any 9 _).mono ?_
              rintro e W6 ⟨rfl, hw6⟩
              subst hw6
              rw [show standsI 9 = false from rfl]
              go_wp2_with fail
              go_roundw
              case rel =>
                refine ⟨j + 1, by go_num, by omega, ?_⟩
                rw [show cK p (j + 1) = { (cK p j : Cn) with warm := (cK p j).warm + 1 } from by rw [cK_next HY.out]; simp [HO.out, HP.out, (show standsI 9 = false from rfl)]]
                exact (X5.out).inc3 HG.out
              case measure => simp [intOf]; omega
          · have HP4 := Lib.hid hp4
            have HP9 := Lib.hid hp9
            have HSt := Lib.hid hs
            clear hs
            cases bo with
            | true =>
              go_wp2_with fail
              refine (refStands_any y.phase _).mono ?_
              rintro e W6 ⟨rfl, hw6⟩
              subst hw6
              rw [HSt.out]
              go_wp2_with fail
              go_roundw
              case rel =>
                refine ⟨j + 1, by go_num, by omega, ?_⟩
                rw [show cK p (j + 1) = { ({ (cK p j : Cn) with old := (cK p j).old + 1 } : Cn) with st := (cK p j).st + 1 } from by rw [cK_next HY.out]; simp [HO.out, HP4.out, HP9.out, HSt.out]]
                exact ((X5.out).inc1 HG.out).inc2 HG.out
              case measure => simp [intOf]; omega
            | false =>
              go_wp2_with fail
              refine (refStands_any y.phase _).mono ?_
              rintro e W6 ⟨rfl, hw6⟩
              subst hw6
              rw [HSt.out]
              go_wp2_with fail
              go_roundw
              case rel =>
                refine ⟨j + 1, by go_num, by omega, ?_⟩
                rw [show cK p (j + 1) = { (cK p j : Cn) with st := (cK p j).st + 1 } from by rw [cK_next HY.out]; simp [HO.out, HP4.out, HP9.out, HSt.out]]
                exact (X5.out).inc2 HG.out
              case measure => simp [intOf]; omega
          · have HP4 := Lib.hid hp4
            have HP9 := Lib.hid hp9
            have HSt := Lib.hid hs
            clear hs
            cases bo with
            | true =>
              go_wp2_with fail
              refine (refStands_any y.phase _).mono ?_
              rintro e W6 ⟨rfl, hw6⟩
              subst hw6
              rw [HSt.out]
              go_wp2_with fail
              go_roundw
              case rel =>
                refine ⟨j + 1, by go_num, by omega, ?_⟩
                rw [show cK p (j + 1) = { (cK p j : Cn) with old := (cK p j).old + 1 } from by rw [cK_next HY.out]; simp [HO.out, HP4.out, HP9.out, HSt.out]]
                exact (X5.out).inc1 HG.out
              case measure => simp [intOf]; omega
            | false =>
              go_wp2_with fail
              refine (refStands_any y.phase _).mono ?_
              rintro e W6 ⟨rfl, hw6⟩
              subst hw6
              rw [HSt.out]
              go_wp2_with fail
              go_roundw
              case rel =>
                refine ⟨j + 1, by go_num, by omega, ?_⟩
                rw [show cK p (j + 1) = cK p j from by rw [cK_next HY.out]; simp [HO.out, HP4.out, HP9.out, HSt.out]]
                exact X5.out
              case measure => simp [intOf]; omega
        · have hje : j = p.kps.length := by omega
          subst hje
          have HB2 := Lib.hid HX.out.below
          have k1 := HX.out.bx.cell 1
          have k6 := HX.out.bx.cell 6
          have f6 := HX.out.bx.frozen 6
          simp only [List.getElem?_toArray, List.getElem?_cons_zero, List.getElem?_cons_succ] at k1 k6
          have c19 : wr.cell? ⟨w.heap.size, 19, none⟩ = some (.slice a.B p.kps.length a.d) := HX.out.br.cell 19
          have d3 : wr.cell? ⟨w.heap.size, 3, none⟩ = some (.int .i64 p.cf.f0) := HX.out.br.cell 3
          have d5 : wr.cell? ⟨w.heap.size, 5, none⟩ = some (.int .i64 p.cf.f2) := HX.out.br.cell 5
          have d20 : wr.cell? ⟨w.heap.size, 20, none⟩ = some (.int .u8 p.rf.st) := HX.out.br.cell 20
          have d24 : wr.cell? ⟨w.heap.size, 24, none⟩ = some (.bool p.rf.paused) := HX.out.br.cell 24
          have hne : ¬ b3 = w.heap.size := by have := HG.out; omega
          have hOl : (cK p p.kps.length).old = oldB p := by simp [cK, oldB]
          rw [hOl] at k1
          obtain ⟨n1, hn1⟩ : ∃ n, oldB p = n := ⟨_, rfl⟩
          rw [hn1] at k1
          have HN1 := Lib.hid hn1
          have HEq := Lib.hid (countB_eq p)
          clear hOl hn1
          rcases (by omega : ¬ p.rf.st = 1 ∨ p.rf.st = 1) with h1 | h1
          · have H1 := Lib.hid h1
            go_upto_region 25 with fail
            refine wpV (fun W5 hW5 => ?_)
            have r_ : CtAt p a b3 w { cK p p.kps.length with want := p.cf.f0 } W5 := by rw [← hW5]; exact HX.out.set HG.out 6 (.int .i64 p.cf.f0) rfl
            have X5 := Lib.hid r_
            have HV5 := Lib.hid (show { cK p p.kps.length with want := p.cf.f0 } = countB p by rw [HEq.out]; rw [show wantB p = p.cf.f0 from by simp [wantB, H1.out]])
            clear hW5 r_ k1 k6 f6 d3 d5 d20 d24
            have HA : Hid ((Cn.cells { cK p p.kps.length with want := p.cf.f0 }).all (·.oneCell') = true) := Lib.hid (by simp [Value.oneCell'])
            go_wp2_with (first | refine wpList_load_row (by rfl) 38 _ rfl b3 (by rfl) 38 _ (0, 0) _ X5.out.bx Tryd.underlying38 rfl (by kernel_rfl) ?_ | refine wpList_store_row (by rfl) 38 _ _ rfl (w.heap.size + 1) (Cn.cells { cK p p.kps.length with want := p.cf.f0 }) (by rfl) (by rfl) 38 _ X5.out.res (by kernel_rfl) rfl HA.out ?_)
            exact count_end (k := 2) rfl (by rfl) (setRow_heap _ _ _ _ _ _ X5.out.res) rfl ⟨by rw [← HV5.out], below_rowsetB X5.out.below (by omega) _⟩
          · rw [h1] at d20
            have H1 := Lib.hid h1
            clear h1
            cases hpa : p.rf.paused with
            | true =>
              rw [hpa] at d24
              have HPa := Lib.hid hpa
              clear hpa
              go_upto_region 25 with fail
              refine wpV (fun W5 hW5 => ?_)
              have r_ : CtAt p a b3 w { cK p p.kps.length with want := p.cf.f0 } W5 := by rw [← hW5]; exact HX.out.set HG.out 6 (.int .i64 p.cf.f0) rfl
              have X5 := Lib.hid r_
              have HV5 := Lib.hid (show { cK p p.kps.length with want := p.cf.f0 } = countB p by rw [HEq.out]; rw [show wantB p = p.cf.f0 from by simp [wantB, HPa.out]])
              clear hW5 r_ k1 k6 f6 d3 d5 d20 d24
              have HA : Hid ((Cn.cells { cK p p.kps.length with want := p.cf.f0 }).all (·.oneCell') = true) := Lib.hid (by simp [Value.oneCell'])
              go_wp2_with (first | refine wpList_load_row (by rfl) 38 _ rfl b3 (by rfl) 38 _ (0, 0) _ X5.out.bx Tryd.underlying38 rfl (by kernel_rfl) ?_ | refine wpList_store_row (by rfl) 38 _ _ rfl (w.heap.size + 1) (Cn.cells { cK p p.kps.length with want := p.cf.f0 }) (by rfl) (by rfl) 38 _ X5.out.res (by kernel_rfl) rfl HA.out ?_)
              exact count_end (k := 2) rfl (by rfl) (setRow_heap _ _ _ _ _ _ X5.out.res) rfl ⟨by rw [← HV5.out], below_rowsetB X5.out.below (by omega) _⟩
            | false =>
              rw [hpa] at d24
              have HPa := Lib.hid hpa
              clear hpa
              rcases (by omega : n1 = 0 ∨ 0 < n1) with h0 | h0
              · subst h0
                go_upto_region 25 with fail
                refine wpV (fun W5 hW5 => ?_)
                have r_ : CtAt p a b3 w { cK p p.kps.length with want := p.cf.f0 } W5 := by rw [← hW5]; exact HX.out.set HG.out 6 (.int .i64 p.cf.f0) rfl
                have X5 := Lib.hid r_
                have HV5 := Lib.hid (show { cK p p.kps.length with want := p.cf.f0 } = countB p by rw [HEq.out]; rw [show wantB p = p.cf.f0 from by simp [wantB, HN1.out]])
                clear hW5 r_ k1 k6 f6 d3 d5 d20 d24
                have HA : Hid ((Cn.cells { cK p p.kps.length with want := p.cf.f0 }).all (·.oneCell') = true) := Lib.hid (by simp [Value.oneCell'])
                go_wp2_with (first | refine wpList_load_row (by rfl) 38 _ rfl b3 (by rfl) 38 _ (0, 0) _ X5.out.bx Tryd.underlying38 rfl (by kernel_rfl) ?_ | refine wpList_store_row (by rfl) 38 _ _ rfl (w.heap.size + 1) (Cn.cells { cK p p.kps.length with want := p.cf.f0 }) (by rfl) (by rfl) 38 _ X5.out.res (by kernel_rfl) rfl HA.out ?_)
                exact count_end (k := 2) rfl (by rfl) (setRow_heap _ _ _ _ _ _ X5.out.res) rfl ⟨by rw [← HV5.out], below_rowsetB X5.out.below (by omega) _⟩
              · have H0 := Lib.hid h0
                have h0i : (0 : Int) < (n1 : Int) := by omega
                clear h0
                go_upto_region 25 with fail
                refine wpV (fun W5 hW5 => ?_)
                have r_ : CtAt p a b3 w { cK p p.kps.length with want := wrap64 (p.cf.f0 + p.cf.f2) } W5 := by rw [← hW5]; exact (CtAt.set (c := { cK p p.kps.length with want := p.cf.f0 }) (HX.out.set HG.out 6 (.int .i64 p.cf.f0) rfl) HG.out 6 (.int .i64 (wrap64 (p.cf.f0 + p.cf.f2))) rfl)
                have X5 := Lib.hid r_
                have HV5 := Lib.hid (show { cK p p.kps.length with want := wrap64 (p.cf.f0 + p.cf.f2) } = countB p by rw [HEq.out]; rw [show wantB p = wrap64 (p.cf.f0 + p.cf.f2) from by simp [wantB, H1.out, HPa.out, HN1.out, H0.out]])
                clear hW5 r_ k1 k6 f6 d3 d5 d20 d24
                have HA : Hid ((Cn.cells { cK p p.kps.length with want := wrap64 (p.cf.f0 + p.cf.f2) }).all (·.oneCell') = true) := Lib.hid (by simp [Value.oneCell'])
                go_wp2_with (first | refine wpList_load_row (by rfl) 38 _ rfl b3 (by rfl) 38 _ (0, 0) _ X5.out.bx Tryd.underlying38 rfl (by kernel_rfl) ?_ | refine wpList_store_row (by rfl) 38 _ _ rfl (w.heap.size + 1) (Cn.cells { cK p p.kps.length with want := wrap64 (p.cf.f0 + p.cf.f2) }) (by rfl) (by rfl) 38 _ X5.out.res (by kernel_rfl) rfl HA.out ?_)
                exact count_end (k := 2) rfl (by rfl) (setRow_heap _ _ _ _ _ _ X5.out.res) rfl ⟨by rw [← HV5.out], below_rowsetB X5.out.below (by omega) _⟩

end Go.Proofs.YtplejbgecihnpaaDoor
