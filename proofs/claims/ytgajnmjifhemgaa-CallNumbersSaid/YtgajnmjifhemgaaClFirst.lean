/-
  The walk of 'first' of package call: the first call of which a closure says yes. Conditions: those that each theorem names.
-/
import Derived.Test.YtgajnmjifhemgaaClEach
namespace Go.Proofs.Ytgajnmjifhemgaa
open Go.RowKit Go.Shelf
attribute [local go_sem] Oper.semAt_some

/-- What holds between two rounds. -/
structure FsAt (w : World) (f : FuncId) (lb : Array Value) (A : Option Addr) (n k : Nat) (p : Cl → Bool) (l : List Cl) (pre : List Cl) (W : World) : Prop where
  no : ∀ y ∈ l.take pre.length, p y = false
  fb : Whole W (w.heap.size + 1) 56 #[.func (.func f) #[] lb]
  rc : Whole W (w.heap.size + 1 + 1) 31 #[.int .i64 0, .int .u8 0, .int .i64 0, .int .i64 0]
  rb : Whole W (w.heap.size + 1 + 1 + 1) 4 #[.bool false]
  nb : Whole W (w.heap.size + 1 + 1 + 1 + 1) 22 #[.slice A n k]
  below : Below w.heap.size w W
  sz : w.heap.size + 1 + 1 + 1 + 1 + 1 ≤ W.heap.size
/-- Where the loop is left. -/
structure FsEnd (w : World) (p : Cl → Bool) (l : List Cl) (c : Code) (W : World) : Prop where
  c : c = .ret
  at_ : ∃ x, l.find? p = some x ∧ Whole W (w.heap.size + 1 + 1) 31 #[.int .i64 x.id, .int .u8 x.kind, .int .i64 x.key, .int .i64 x.sent]
  rb : Whole W (w.heap.size + 1 + 1 + 1) 4 #[.bool true]
  below : Below w.heap.size w W
section
variable {w : World} {f : FuncId} {lb : Array Value} {A : Option Addr} {n k : Nat} {p : Cl → Bool} {l : List Cl}
theorem fsAt_own (B : Nat) (hB : w.heap.size < B) : OwnFrom B (FsAt w f lb A n k p l) := by
  intro pre W1 W2 row h hg hr
  have hr' : ∀ r, row = some r → ∃ o : Obj, W1.heap[r]? = some o ∧ o.isCells = false := fun r e => (hr r e).2
  exact ⟨h.no, h.fb.turn hg hr', h.rc.turn hg hr', h.rb.turn hg hr', h.nb.turn hg hr', h.below.grown hg h.below.size (fun k e => by have := (hr k e).1; omega), Nat.le_trans h.sz hg.size⟩
theorem fsEnd_own (B : Nat) (hB : w.heap.size < B) : OwnFrom B (FsEnd w p l) := by
  intro c W1 W2 row h hg hr
  have hr' : ∀ r, row = some r → ∃ o : Obj, W1.heap[r]? = some o ∧ o.isCells = false := fun r e => (hr r e).2
  obtain ⟨x, h1, h2⟩ := h.at_
  exact ⟨h.c, ⟨x, h1, h2.turn hg hr'⟩, h.rb.turn hg hr', h.below.grown hg h.below.size (fun k e => by have := (hr k e).1; omega)⟩
theorem FsAt.under {pre : List Cl} {W W' : World} (h : FsAt w f lb A n k p l pre W) (hb : Below W.heap.size W W') : FsAt w f lb A n k p l pre W' :=
  ⟨h.no, h.fb.under hb, h.rc.under hb, h.rb.under hb, h.nb.under hb, h.below.trans (hb.mono h.below.size), Nat.le_trans h.sz hb.size⟩
theorem find_first {x : Cl} {j : Nat} (hx : l[j]? = some x) (hp : p x = true) (hno : ∀ y ∈ l.take j, p y = false) : l.find? p = some x := by
  have hj := List.getElem?_eq_some_iff.1 hx
  rw [List.find?_eq_some_iff_append]
  refine ⟨hp, l.take j, l.drop (j + 1), ?_, fun y hy => by simp [hno y hy]⟩
  rw [← hj.2, ← List.drop_eq_getElem_cons hj.1, List.take_append_drop]
end

set_option maxRecDepth 100000 in
theorem first_end {w W : World} (D : Nat) (a : Act) (r s : Option Cl) (hs : r = s) (h2 : Whole W (w.heap.size + 1 + 1) 31 #[.int .i64 (s.getD ⟨0, 0, 0, 0⟩).id, .int .u8 (s.getD ⟨0, 0, 0, 0⟩).kind, .int .i64 (s.getD ⟨0, 0, 0, 0⟩).key, .int .i64 (s.getD ⟨0, 0, 0, 0⟩).sent]) (h3 : Whole W (w.heap.size + 1 + 1 + 1) 4 #[.bool s.isSome]) (hb : Below w.heap.size w W) (hK : W.heap[D]? = some (.deferred (some [])))
    (hres : ∀ W', W'.cell? ⟨w.heap.size + 1 + 1, 0, none⟩ = some (.int .i64 (s.getD ⟨0, 0, 0, 0⟩).id) → W'.cell? ⟨w.heap.size + 1 + 1, 1, none⟩ = some (.int .u8 (s.getD ⟨0, 0, 0, 0⟩).kind) → W'.cell? ⟨w.heap.size + 1 + 1, 2, none⟩ = some (.int .i64 (s.getD ⟨0, 0, 0, 0⟩).key) → W'.cell? ⟨w.heap.size + 1 + 1, 3, none⟩ = some (.int .i64 (s.getD ⟨0, 0, 0, 0⟩).sent) → W'.cell? ⟨w.heap.size + 1 + 1 + 1, 0, none⟩ = some (.bool s.isSome) → (results Try.f34 a.tmps).run Try.prog W' = .ok (.tuple #[.agg #[.int .i64 (s.getD ⟨0, 0, 0, 0⟩).id, .int .u8 (s.getD ⟨0, 0, 0, 0⟩).kind, .int .i64 (s.getD ⟨0, 0, 0, 0⟩).key, .int .i64 (s.getD ⟨0, 0, 0, 0⟩).sent], .bool s.isSome]) W')
    (hd : a.defers = [{ target := .collected D, args := #[] }]) (hD : w.heap.size ≤ D) :
    bodyPostM Fence.wide 6 Try.prog Try.f34 (fun e w' => e = .returned (.tuple #[.agg #[.int .i64 (r.getD ⟨0, 0, 0, 0⟩).id, .int .u8 (r.getD ⟨0, 0, 0, 0⟩).kind, .int .i64 (r.getD ⟨0, 0, 0, 0⟩).key, .int .i64 (r.getD ⟨0, 0, 0, 0⟩).sent], .bool r.isSome]) ∧ Below w.heap.size w w') .ret a W := by
  subst hs
  obtain ⟨tm, df⟩ := a
  simp only at hd hres
  subst hd
  have hg' := grownBy_putObj' W D (.deferred none)
  have hr' : ∀ q, (some D) = some q → ∃ o : Obj, W.heap[q]? = some o ∧ o.isCells = false := fun q e => by cases e; exact ⟨_, hK, rfl⟩
  obtain ⟨x0, x1, x2, x3⟩ := cells4 (h2.turn hg' hr')
  have b0 := cells1 (h3.turn hg' hr')
  refine ⟨by simp, .inl ⟨_, _, rfl, run_takeDeferred hK, ?_⟩⟩
  exact ⟨_, hres _ x0 x1 x2 x3 b0, rfl, hb.trans ((Below.refl _ _).grown hg' hb.size (fun k e => by cases e; omega))⟩

set_option maxRecDepth 100000 in
set_option maxHeartbeats 2000000 in
theorem first_any (f : FuncId) (lb : Array Value) (p : Cl → Bool) (ep nx : Int) (A : Option Addr) (n k : Nat) (l : List Cl) (B : Nat) (w : World) (hr : RdC w B A n l) (hB : B ≤ w.heap.size) (hn : n ≤ 1000)
    (eg : ∀ args w, (callFunc f args).run Try.prog w = .ok (.enter f args) w)
    (hf : ∀ (x : Cl) (W : World), Below w.heap.size w W → Calls Try.prog f (#[.agg #[.int .i64 x.id, .int .u8 x.kind, .int .i64 x.key, .int .i64 x.sent]] ++ lb) W (BoolPost (p x) W)) :
    Calls Try.prog 34 #[.agg #[.int .i64 ep, .int .i64 nx, .slice A n k], .func (.func f) #[] lb] w fun e w' => e = .returned (.tuple #[.agg #[.int .i64 ((l.find? p).getD ⟨0, 0, 0, 0⟩).id, .int .u8 ((l.find? p).getD ⟨0, 0, 0, 0⟩).kind, .int .i64 ((l.find? p).getD ⟨0, 0, 0, 0⟩).key, .int .i64 ((l.find? p).getD ⟨0, 0, 0, 0⟩).sent], .bool (l.find? p).isSome]) ∧ Below w.heap.size w w' := by
  have HR := Lib.hid (hr.more hB)
  have HF := Lib.hid hf
  clear hr hB hf
  obtain ⟨r, hres⟩ : ∃ r, l.find? p = r := ⟨_, rfl⟩
  rw [hres]
  have HRes := Lib.hid hres
  clear hres
  refine (callsIn_wide (n := 6)).1 ?_
  refine callsIn_of_wp_marks Try.func34 rfl trivial ?_ rfl
  simp only [Try.ntmps34, List.size_toArray, List.length_cons, List.length_nil, Nat.reduceAdd, Nat.reduceSub, Array.replicate_succ, Array.replicate_zero, List.push_toArray, List.append_toArray, List.nil_append, List.cons_append]
  gi_wp2_with (refine ⟨trivial, ?_⟩; gi_at_call 47; refine (callsIn_wide.2 (each_any _ _ _ _)).mono ?_; rintro e w2 ⟨rfl, rfl⟩)
  obtain ⟨W0, hW0⟩ : ∃ W0, ((((w.alloc (.cells #[.int .i64 ep, .int .i64 nx, .slice A n k] 24)).alloc (.cells #[.func (.func f) #[] lb] 56)).alloc (.cells #[.int .i64 0, .int .u8 0, .int .i64 0, .int .i64 0] 31)).alloc (.cells #[.bool false] 4)).alloc (.cells #[.slice A n k] 22) = W0 := ⟨_, rfl⟩
  have hs0 : W0.heap.size = w.heap.size + 1 + 1 + 1 + 1 + 1 := by rw [← hW0]; simp
  have hb0 : Below w.heap.size w W0 := by rw [← hW0]; exact (((((Below.refl _ w).alloc (Nat.le_refl _) _).alloc (by simp) _).alloc (by simp; omega) _).alloc (by simp; omega) _).alloc (by simp; omega) _
  rw [hW0]
  have hinv : FsAt w f lb A n k p l [] W0 := by
    obtain ⟨q1, q2, q3⟩ := two_new w 24 56 #[.int .i64 ep, .int .i64 nx, .slice A n k] #[.func (.func f) #[] lb]
    obtain ⟨V2, hV2⟩ : ∃ V2, (w.alloc (.cells #[.int .i64 ep, .int .i64 nx, .slice A n k] 24)).alloc (.cells #[.func (.func f) #[] lb] 56) = V2 := ⟨_, rfl⟩
    rw [hV2] at q1 q2 q3 hW0
    have k2 : V2.heap.size = w.heap.size + 1 + 1 := by rw [← hV2]; simp
    obtain ⟨t0, t1, t2, t3⟩ := three_new V2 31 4 22 #[.int .i64 0, .int .u8 0, .int .i64 0, .int .i64 0] #[.bool false] #[.slice A n k]
    rw [hW0] at t0 t1 t2 t3
    rw [k2] at t1 t2 t3
    exact ⟨by simp, q3.under t0, t1, t2, t3, hb0, by omega⟩
  have hbn : W0.cell? ⟨w.heap.size + 1 + 1 + 1 + 1, 0, none⟩ = some (.slice A n k) := hinv.nb.cell 0
  clear hW0
  refine wpIn_range_mem (by omega) (gf := 48) (lb := #[.pointer (some ⟨w.heap.size + 1 + 1 + 1 + 1, 0, none⟩)]) rfl (enters_of Try.func48 (by kernel_rfl) rfl) (encs := encC)
    (eachC_mem 5 (w.heap.size + 1 + 1 + 1 + 1) w.heap.size A n k l (by omega) W0 (by omega) (by omega) hbn (HR.out.below hb0))
    (fun h k => kpB_t h k) (kpB_b (by omega) (by omega)) (Below.refl _ _) (fun _ => rfl)
    (FsAt w f lb A n k p l) (FsEnd w p l)
    (fsAt_own _ (by omega)) (fsEnd_own _ (by omega)) hinv
    (fun pre x a' W => l[pre.length]? = some x ∧ ∃ g, a' = { tmps := #[.agg #[.int .i64 ep, .int .i64 nx, .slice A n k], .func (.func f) #[] lb, .pointer (some ⟨w.heap.size, 0, none⟩), .pointer (some ⟨w.heap.size + 1, 0, none⟩), .pointer (some ⟨w.heap.size + 1 + 1, 0, none⟩), .pointer (some ⟨w.heap.size + 1 + 1 + 1, 0, none⟩), .pointer (some ⟨g, 0, none⟩), .pointer (some ⟨w.heap.size, 2, none⟩), .slice A n k, .func (.func 48) #[] #[.pointer (some ⟨w.heap.size + 1 + 1 + 1 + 1, 0, none⟩)], .agg #[.int .i64 x.id, .int .u8 x.kind, .int .i64 x.key, .int .i64 x.sent], undef, undef, undef, undef, undef], defers := [] } ∧ Whole W g 31 #[.int .i64 x.id, .int .u8 x.kind, .int .i64 x.key, .int .i64 x.sent])
    (fun a' p X Y row hs hg hr => ⟨hs.1, by obtain ⟨g, e, hb⟩ := hs.2; exact ⟨g, e, Whole.turn hb hg (fun r e => (hr r e).2)⟩⟩) ?assign ?body ?done ?stop
  case assign =>
    rintro lp pre x W K hI hOk hK
    have HOk := Lib.hid hOk
    have HI := Lib.hid hI
    clear hOk hI
    unfold encC
    gi_wp2
    have hbu : Below W.heap.size W (W.alloc (.cells #[.int .i64 x.id, .int .u8 x.kind, .int .i64 x.key, .int .i64 x.sent] 31)) := (Below.refl _ _).alloc (Nat.le_refl _) _
    exact hK _ _ (keepsFrom_alloc _ _ _) (kpB_under hbu HI.out.below.size (by have := HI.out.sz; omega)) (HI.out.under hbu) ⟨HOk.out, _, rfl, Whole.new _ _ _⟩
  case body =>
    rintro lp pre x a' W hlp hI ⟨hx, g, rfl, hbx⟩
    have HI := Lib.hid hI
    have HX := Lib.hid hx
    have HBX := Lib.hid hbx
    obtain ⟨x0, x1, x2, x3⟩ := cells4 hbx
    have f0 := cells1 hI.fb
    clear hI hbx hx
    gi_wp2_with fail
    refine ⟨trivial, ?_⟩
    refine (CallsIn.inRound lp (callsIn_wide.2 (HF.out x W HI.out.below))).mono ?_
    rintro e w2 ⟨rfl, q2⟩
    have HI2 := Lib.hid (HI.out.under q2)
    have HBX2 := Lib.hid (HBX.out.under q2)
    have HQ2 := Lib.hid q2
    clear x0 x1 x2 x3 f0 q2
    cases hp : p x with
    | true =>
      have HFi := Lib.hid (find_first HX.out hp HI.out.no)
      clear hp
      obtain ⟨x0, x1, x2, x3⟩ := cells4 HBX2.out
      obtain ⟨r0, r1, r2, r3⟩ := cells4 HI2.out.rc
      have z0 := HI2.out.rc.frozen 0
      have z1 := HI2.out.rc.frozen 1
      have z2 := HI2.out.rc.frozen 2
      have z3 := HI2.out.rc.frozen 3
      have b0 := cells1 HI2.out.rb
      have zb := HI2.out.rb.frozen 0
      gi_wp2_with fail
      obtain ⟨e3, k3⟩ := put4 HI2.out.rc (.int .i64 x.id) (.int .u8 x.kind) (.int .i64 x.key) (.int .i64 x.sent)
      obtain ⟨e4, k4⟩ := put1 (k3.far HI2.out.rb (by omega)) (.bool true)
      refine ⟨((HQ2.out |> keepsFrom_under _).trans (k3.keeps.from _)).trans (k4.keeps.from _), rfl, ⟨x, HFi.out, k4.far e3 (by omega)⟩, e4, k4.bel (k3.bel HI2.out.below (by omega)) (by omega)⟩
    | false =>
      have HP := Lib.hid hp
      clear hp
      gi_wp2_with fail
      refine ⟨keepsFrom_under _ HQ2.out, kpB_under HQ2.out HI.out.below.size (by have := HI.out.sz; omega), ?_, HI2.out.fb, HI2.out.rc, HI2.out.rb, HI2.out.nb, HI2.out.below, HI2.out.sz⟩
      intro y hy
      rw [List.length_append, List.length_singleton, List.take_succ_eq_append_getElem (List.getElem?_eq_some_iff.1 HX.out).1, (List.getElem?_eq_some_iff.1 HX.out).2, List.mem_append, List.mem_singleton] at hy
      rcases hy with hy | rfl
      · exact HI.out.no y hy
      · exact HP.out
  case done =>
    rintro D ys W hD hys hI hK
    have HK := Lib.hid hK
    have HI := Lib.hid hI
    have hnone : l.find? p = none := by
      rw [List.find?_eq_none]
      intro y hy
      have h1 := hI.no y (by rw [List.take_of_length_le (by rw [hys, HR.out.len]; exact Nat.le_refl _)]; exact hy)
      simp [h1]
    have HNn := Lib.hid (HRes.out.symm.trans hnone)
    obtain ⟨r0, r1, r2, r3⟩ := cells4 hI.rc
    have z0 := hI.rc.frozen 0
    have z1 := hI.rc.frozen 1
    have z2 := hI.rc.frozen 2
    have z3 := hI.rc.frozen 3
    have b0 := cells1 hI.rb
    have zb := hI.rb.frozen 0
    clear hK hI hnone
    gi_wp2_with fail
    obtain ⟨e3, k3⟩ := put4 HI.out.rc (.int .i64 0) (.int .u8 0) (.int .i64 0) (.int .i64 0)
    obtain ⟨e4, k4⟩ := put1 (k3.far HI.out.rb (by omega)) (.bool false)
    have hK2 := (k4.keeps).same D _ ((k3.keeps).same D _ HK.out rfl) rfl
    have e5 := k4.far e3 (by omega)
    have bE := k4.bel (k3.bel HI.out.below (by omega)) (by omega)
    refine first_end D _ r none HNn.out e5 e4 bE hK2 (fun W' x0 x1 x2 x3 b0 => by simp [results, Try.results34, go_sem, x0, x1, x2, x3, b0]) rfl (by have := bE.size; omega)
  case stop =>
    rintro D c W hD ⟨rfl, ⟨x, hx, hw⟩, hb, hbe⟩ hK
    have HX := Lib.hid (HRes.out.symm.trans hx)
    clear hx
    gi_wp2_with fail
    refine first_end D _ r (some x) HX.out hw hb hbe hK (fun W' x0 x1 x2 x3 b0 => by simp [results, Try.results34, go_sem, x0, x1, x2, x3, b0]) rfl (by omega)

end Go.Proofs.Ytgajnmjifhemgaa
