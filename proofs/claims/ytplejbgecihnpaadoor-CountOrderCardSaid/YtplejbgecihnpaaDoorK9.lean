/-
  Texts that the walk of a statement over brains leans on, joined (CtTold, CtSizes, CtRefZones, CtKit). Conditions: those that each theorem names.
-/
import Derived.Test.YtplejbgecihnpaaDoorK6
import Derived.Test.YtplejbgecihnpaaDoorK7
import Derived.Test.YtplejbgecihnpaaDoorK8
import Derived.RangeFuncLeaves

namespace Go.Proofs.YtplejbgecihnpaaDoor
open Go.RowKit Go.Shelf

def FI : Nat → FuncId
  | 0 => 48
  | 1 => 50
  | 2 => 53
  | 3 => 55
  | _ => 57
def FK : Nat → FuncId
  | 0 => 49
  | 1 => 51
  | 2 => 54
  | 3 => 56
  | _ => 58
def LB (g : Nat) : Nat → Array Value
  | 0 => #[.pointer (some ⟨g, 0, none⟩)]
  | _ => #[]
def qI (p : Br) : Nat → It → Bool
  | 0 => oldI p
  | 1 => fun x => !x.warm
  | 2 => It.warm
  | 3 => fun _ => true
  | _ => fun _ => false
def qK (p : Br) : Nat → Kp → Bool
  | 0 => oldK p
  | 1 => fun x => standsI x.phase
  | 2 => fun x => decide (x.phase = 9)
  | 3 => fun _ => true
  | _ => fun x => decide (x.phase = 4)
def fvI (g t : Nat) : Value := .func (.func (FI t)) #[] (LB g t)
def fvK (g t : Nat) : Value := .func (.func (FK t)) #[] (LB g t)
def lotsC (g : Nat) : Array Value := #[fvI g 0, fvK g 0, fvI g 1, fvK g 1, fvI g 2, fvK g 2, fvI g 3, fvK g 3, fvI g 4, fvK g 4]
theorem lots_one (g : Nat) : (lotsC g).all (·.oneCell') = true := by simp [lotsC, fvI, fvK, Value.oneCell']
theorem lots_I {g t : Nat} (ht : t < 5) : (lotsC g)[t * 2]? = some (fvI g t) := by
  rcases (by omega : t = 0 ∨ t = 1 ∨ t = 2 ∨ t = 3 ∨ t = 4) with rfl | rfl | rfl | rfl | rfl <;> rfl
theorem lots_K {g t : Nat} (ht : t < 5) : (lotsC g)[t * 2 + 1]? = some (fvK g t) := by
  rcases (by omega : t = 0 ∨ t = 1 ∨ t = 2 ∨ t = 3 ∨ t = 4) with rfl | rfl | rfl | rfl | rfl <;> rfl
theorem enterI (t : Nat) : ∀ args w, (callFunc (FI t) args).run Tryd.prog w = .ok (.enter (FI t) args) w := by
  match t with
  | 0 => exact enters_of Tryd.func48 (by kernel_rfl) rfl
  | 1 => exact enters_of Tryd.func50 (by kernel_rfl) rfl
  | 2 => exact enters_of Tryd.func53 (by kernel_rfl) rfl
  | 3 => exact enters_of Tryd.func55 (by kernel_rfl) rfl
  | _ + 4 => exact enters_of Tryd.func57 (by kernel_rfl) rfl
theorem enterK (t : Nat) : ∀ args w, (callFunc (FK t) args).run Tryd.prog w = .ok (.enter (FK t) args) w := by
  match t with
  | 0 => exact enters_of Tryd.func49 (by kernel_rfl) rfl
  | 1 => exact enters_of Tryd.func51 (by kernel_rfl) rfl
  | 2 => exact enters_of Tryd.func54 (by kernel_rfl) rfl
  | 3 => exact enters_of Tryd.func56 (by kernel_rfl) rfl
  | _ + 4 => exact enters_of Tryd.func58 (by kernel_rfl) rfl
theorem sayI (p : Br) (a : Ad) (g t : Nat) (x : It) (w : World) (hg : Whole w g 30 (brC p a)) : Calls Tryd.prog (FI t) (#[.agg #[.int .i64 x.tok, .int .i64 x.ver, .int .i64 x.zone, .bool x.warm]] ++ LB g t) w (BoolPost (qI p t x) w) := by
  match t with
  | 0 => exact told1_any p a g x w hg
  | 1 => exact told3_any x w
  | 2 => exact told5_any x w
  | 3 => exact told7_any x w
  | _ + 4 => exact told9_any x w
theorem sayK (p : Br) (a : Ad) (g t : Nat) (x : Kp) (w : World) (hg : Whole w g 30 (brC p a)) : Calls Tryd.prog (FK t) (#[x.v] ++ LB g t) w (BoolPost (qK p t x) w) := by
  match t with
  | 0 => exact told2_any p a g x w hg
  | 1 => exact told4_any x w
  | 2 => exact told6_any x w
  | 3 => exact told8_any x w
  | _ + 4 => exact told10_any x w

/-- The end of a function that tells lots out of a box. -/
theorem lots_end {fn : Func} {k b : Nat} (hres : fn.results = #[.cell k 59]) {tm : Array Value} {W : World} {cs : Array Value} {R : Ending → World → Prop} (h2 : tm[k]? = some (.pointer (some ⟨b, 0, none⟩))) (hw : Whole W b 59 cs) (hcs : cs.size = 10) (hR : R (.returned (.agg cs)) W) : bodyPost Tryd.prog fn R .ret { tmps := tm, defers := [] } W := by
  have hl := run_loadVar_row (P := Tryd.prog) W b 59 59 cs (0, 0) _ hw Tryd.underlying59 rfl (by rw [hcs]; kernel_rfl)
  refine bodyPost_ret (v := .agg cs) ?_ rfl hR
  simp [results, hres, h2, hl, asAddr]
def funcs0 : Array Value := #[.nilFunc, .nilFunc, .nilFunc, .nilFunc, .nilFunc, .nilFunc, .nilFunc, .nilFunc, .nilFunc, .nilFunc]
set_option maxRecDepth 100000 in
set_option maxHeartbeats 1000000 in
theorem told_any (p : Br) (a : Ad) (w : World) : Calls Tryd.prog 35 #[brV p a] w fun e w' => e = .returned (.agg (lotsC w.heap.size)) ∧ Whole w' w.heap.size 30 (brC p a) ∧ Below w.heap.size w w' := by
  obtain ⟨hb, w0, w1⟩ := two_new w 30 59 (brC p a) funcs0
  obtain ⟨V, hV⟩ : ∃ V, (w.alloc (.cells (brC p a) 30)).alloc (.cells funcs0 59) = V := ⟨_, rfl⟩
  rw [hV] at hb w0 w1
  have HB := Lib.hid hb
  have HV := Lib.hid hV
  have W0 := Lib.hid w0
  have W1 := Lib.hid w1
  clear hb w0 w1 hV
  have hmf : ∀ (fn : Fn) (first cap : Array Value) (w : World), (Instr.makeFunc fn first cap).run Tryd.prog w = .ok (.func fn first cap) w := fun _ _ _ _ => rfl
  go_enter Tryd.func35, Tryd.ntmps35
  go_upto_region 1 with fail
  refine wpV (fun V2 hV2 => ?_)
  obtain rfl : V = V2 := HV.out.symm.trans hV2
  clear HV hV2
  go_wp2_with (refine wpList_store_at (by rfl) 59 _ _ rfl (w.heap.size + 1) 0 (lotsC w.heap.size) (by rfl) (by rfl) 59 funcs0 W1.out (by kernel_rfl) (Nat.le_refl _) (lots_one _) ?_)
  have e : (List.take 0 funcs0.toList ++ (lotsC w.heap.size).toList ++ List.drop (0 + (lotsC w.heap.size).size) funcs0.toList).toArray = lotsC w.heap.size := rfl
  rw [e]
  have k1 := Only.row W1.out (lotsC w.heap.size)
  have w2 : Whole (V.setRow (w.heap.size + 1) (lotsC w.heap.size)) (w.heap.size + 1) 59 (lotsC w.heap.size) := setRow_heap _ _ _ _ _ _ W1.out
  exact lots_end rfl rfl w2 rfl ⟨rfl, k1.far W0.out (by omega), k1.bel HB.out (by omega)⟩

end Go.Proofs.YtplejbgecihnpaaDoor

namespace Go.Proofs.YtplejbgecihnpaaDoor
open Go.RowKit Go.Shelf
attribute [local go_sem] Oper.semAt_some

def sumT (p : Br) (t : Nat) : Nat := (p.its.filter (qI p t)).length + (p.kps.filter (qK p t)).length
/-- What the first t lots are, and what the next one is so far. -/
def szF (p : Br) (t : Nat) (v : Int) (i : Nat) : Int := if i < t then (sumT p i : Int) else if i = t then v else 0
def cells5 (f : Nat → Int) : Array Value := #[.int .i64 (f 0), .int .i64 (f 1), .int .i64 (f 2), .int .i64 (f 3), .int .i64 (f 4)]
theorem cells5_at (f : Nat → Int) {t : Nat} (ht : t < 5) : (cells5 f)[t]? = some (.int .i64 (f t)) := by
  rcases (by omega : t = 0 ∨ t = 1 ∨ t = 2 ∨ t = 3 ∨ t = 4) with rfl | rfl | rfl | rfl | rfl <;> rfl
theorem cells5_set (f g : Nat → Int) {t : Nat} (ht : t < 5) {v : Int} (h1 : g t = v) (h2 : ∀ i, i ≠ t → g i = f i) : (cells5 f).setIfInBounds t (.int .i64 v) = cells5 g := by
  rcases (by omega : t = 0 ∨ t = 1 ∨ t = 2 ∨ t = 3 ∨ t = 4) with rfl | rfl | rfl | rfl | rfl
  all_goals
    simp only [cells5, List.setIfInBounds_toArray, List.set_cons_zero, List.set_cons_succ]
    simp [h1, h2]
theorem szF_at (p : Br) (t : Nat) (v : Int) : szF p t v t = v := by simp [szF]
theorem szF_other (p : Br) (t : Nat) (v u : Int) {i : Nat} (h : i ≠ t) : szF p t v i = szF p t u i := by simp [szF, h]
theorem szF_zero (p : Br) : szF p 0 0 = fun _ => 0 := by funext i; simp [szF]
theorem szF_next (p : Br) (t : Nat) : szF p t (sumT p t : Int) = szF p (t + 1) 0 := by
  funext i
  unfold szF
  by_cases h : i < t
  · rw [if_pos h, if_pos (by omega)]
  · by_cases h2 : i = t
    · subst h2; simp
    · rw [if_neg h, if_neg h2, if_neg (by omega)]
      split <;> rfl
theorem sumT_le (p : Br) (t : Nat) : (p.its.filter (qI p t)).length ≤ p.its.length ∧ (p.kps.filter (qK p t)).length ≤ p.kps.length := ⟨List.length_filter_le _ _, List.length_filter_le _ _⟩

/-- The marks of the loops that have been left, on their way out. -/
def Marks (ds : List Deferred) (W : World) : Prop := ∃ Ds : List Nat, ds = Ds.map (fun D => ({ target := .collected D, args := #[] } : Deferred)) ∧ Ds.Nodup ∧ ∀ D ∈ Ds, W.heap[D]? = some (.deferred (some []))
theorem Marks.nil_ (W : World) : Marks [] W := ⟨[], rfl, List.nodup_nil, fun D h => (by cases h)⟩
theorem Marks.kept {ds : List Deferred} {W W' : World} (h : Marks ds W) (hk : ∀ (k : Nat) (o : Obj), W.heap[k]? = some o → o.isCells = false → W'.heap[k]? = some o) : Marks ds W' := by
  obtain ⟨Ds, h1, h2, h3⟩ := h
  exact ⟨Ds, h1, h2, fun D hD => hk D _ (h3 D hD) rfl⟩
theorem Marks.under {ds : List Deferred} {W W' : World} (h : Marks ds W) (hb : Below W.heap.size W W') : Marks ds W' := h.kept (keeps_under hb).same
theorem Marks.cons {ds : List Deferred} {W : World} {D : Nat} (h : Marks ds W) (hD : W.heap[D]? = some (.deferred (some []))) (hn : ∀ D', (⟨.collected D', #[]⟩ : Deferred) ∈ ds → D' ≠ D) : Marks ({ target := .collected D, args := #[] } :: ds) W := by
  obtain ⟨Ds, rfl, h2, h3⟩ := h
  refine ⟨D :: Ds, rfl, List.nodup_cons.2 ⟨fun hm => hn D (List.mem_map.2 ⟨D, hm, rfl⟩) rfl, h2⟩, fun D' hD' => ?_⟩
  rcases List.mem_cons.1 hD' with rfl | h
  · exact hD
  · exact h3 D' h
theorem Marks.lt {ds : List Deferred} {W : World} {D : Nat} (h : Marks ds W) (hm : (⟨.collected D, #[]⟩ : Deferred) ∈ ds) : D < W.heap.size := by
  obtain ⟨Ds, rfl, h2, h3⟩ := h
  obtain ⟨D', hD', e⟩ := List.mem_map.1 hm
  cases e
  exact (Array.getElem?_eq_some_iff.1 (h3 D hD')).1
/-- What stands when the marks have been taken: all cells. -/
theorem leaves_marks {fn : Func} {tm : Array Value} {n : Nat} {F : Fence} {R : Ending → World → Prop} {B : Nat} : ∀ (Ds : List Nat) (W : World), Ds.Nodup → (∀ D ∈ Ds, W.heap[D]? = some (.deferred (some [])) ∧ B ≤ D) →
    (∀ W' : World, Below B W W' → (∀ (k : Nat) (o : Obj), W.heap[k]? = some o → o.isCells = true → W'.heap[k]? = some o) → ∃ v, (results fn tm).run Tryd.prog W' = .ok v W' ∧ R (.returned v) W') →
    LeavesInM F n Tryd.prog fn tm R (Ds.map fun D => ({ target := .collected D, args := #[] } : Deferred)) .returning W
  | [], W, _, _, h => by
    obtain ⟨v, h1, h2⟩ := h W (Below.refl _ _) (fun _ _ h _ => h)
    exact ⟨v, h1, h2⟩
  | D :: Ds, W, hnd, hD, h => by
    have hK := (hD D (List.mem_cons_self ..)).1
    have hBD := (hD D (List.mem_cons_self ..)).2
    refine ⟨by simp, .inl ⟨D, _, rfl, run_takeDeferred hK, ?_⟩⟩
    have hnd' := List.nodup_cons.1 hnd
    have hput : ∀ k, k ≠ D → (W.putObj D (.deferred none)).heap[k]? = W.heap[k]? := fun k hk => World.putObj_heap_other hk
    refine leaves_marks Ds _ hnd'.2 (fun D' hD' => ⟨(hput D' (fun e => hnd'.1 (e ▸ hD'))).trans (hD D' (List.mem_cons_of_mem _ hD')).1, (hD D' (List.mem_cons_of_mem _ hD')).2⟩) (fun W' hb hc => h W' ?_ ?_)
    · have hp : Below B W (W.putObj D (.deferred none)) := ⟨rfl, rfl, rfl, Nat.le_of_eq World.putObj_size.symm, fun b hb => hput b (by omega)⟩
      exact hp.trans hb
    · intro k o hk ho
      refine hc k o ((hput k ?_).trans hk) ho
      rintro rfl
      rw [hK] at hk
      cases hk
      cases ho
theorem Whole.cells_ {W W' : World} {b : Nat} {t : TypeId} {cs : Array Value} (h : Whole W b t cs) (hc : ∀ (k : Nat) (o : Obj), W.heap[k]? = some o → o.isCells = true → W'.heap[k]? = some o) : Whole W' b t cs := hc b _ h rfl

/-- What stands in 'sizes': S: where it began; the lots, the place. -/
structure SzAt (p : Br) (a : Ad) (w : World) (g b4 b5 t : Nat) (v : Int) (W : World) : Prop where
  br : Whole W w.heap.size 30 (brC p a)
  res : Whole W (w.heap.size + 1) 53 (cells5 fun _ => 0)
  n : Whole W (w.heap.size + 1 + 1) 53 (cells5 (szF p t v))
  lots : Whole W b4 59 (lotsC g)
  at_ : Whole W b5 3 #[.int .i64 (t : Int)]
  gb : Whole W g 30 (brC p a)
  below : Below w.heap.size w W
section
variable {p : Br} {a : Ad} {w W W' : World} {g b4 b5 t : Nat} {v : Int}
theorem SzAt.under (h : SzAt p a w g b4 b5 t v W) (hb : Below W.heap.size W W') : SzAt p a w g b4 b5 t v W' :=
  ⟨h.br.under hb, h.res.under hb, h.n.under hb, h.lots.under hb, h.at_.under hb, h.gb.under hb, h.below.trans (hb.mono h.below.size)⟩
theorem SzAt.turn {row : Option Nat} (h : SzAt p a w g b4 b5 t v W) (hg : W.grownBy W' row) (hr : ∀ r, row = some r → w.heap.size ≤ r ∧ ∃ o : Obj, W.heap[r]? = some o ∧ o.isCells = false) : SzAt p a w g b4 b5 t v W' := by
  have hr' : ∀ r, row = some r → ∃ o : Obj, W.heap[r]? = some o ∧ o.isCells = false := fun r e => (hr r e).2
  exact ⟨h.br.turn hg hr', h.res.turn hg hr', h.n.turn hg hr', h.lots.turn hg hr', h.at_.turn hg hr', h.gb.turn hg hr', h.below.grown hg h.below.size (fun k e => (hr k e).1)⟩
/-- Where they lie. -/
def SzOrd (w : World) (g b4 b5 : Nat) : Prop := w.heap.size + 1 + 1 < g ∧ g < b4 ∧ b4 < b5
theorem SzAt.inc (h : SzAt p a w g b4 b5 t v W) (ho : SzOrd w g b4 b5) (ht : t < 5) (u : Int) : SzAt p a w g b4 b5 t u (W.setCell ⟨w.heap.size + 1 + 1, t, none⟩ (.int .i64 u)) := by
  have k := Only.set W (w.heap.size + 1 + 1) t (.int .i64 u)
  obtain ⟨o1, o2, o3⟩ := ho
  refine ⟨k.far h.br (by omega), k.far h.res (by omega), ?_, k.far h.lots (by omega), k.far h.at_ (by omega), k.far h.gb (by omega), k.bel h.below (by omega)⟩
  have h1 := h.n.set t (.int .i64 u)
  rw [cells5_set (szF p t v) (szF p t u) ht (szF_at _ _ _) (fun i hi => szF_other p t u v hi)] at h1
  exact h1
theorem SzAt.step (h : SzAt p a w g b4 b5 t (sumT p t : Int) W) (ho : SzOrd w g b4 b5) : SzAt p a w g b4 b5 (t + 1) 0 (W.setCell ⟨b5, 0, none⟩ (.int .i64 ((t : Int) + 1))) := by
  have k := Only.set W b5 0 (.int .i64 ((t : Int) + 1))
  obtain ⟨o1, o2, o3⟩ := ho
  refine ⟨k.far h.br (by omega), k.far h.res (by omega), ?_, k.far h.lots (by omega), h.at_.set 0 _, k.far h.gb (by omega), k.bel h.below (by omega)⟩
  have h1 := k.far h.n (by omega)
  rw [szF_next] at h1
  exact h1
end
theorem grown_cell {W0 W : World} {r i : Nat} {v : Value} (h : W0.grownBy W (some r)) : W0.grownBy (W.setCell ⟨r, i, none⟩ v) (some r) := by
  have k := (Only.set W r i v).grown
  exact ⟨k.os.trans h.os, k.tape.trans h.tape, k.output.trans h.output, Nat.le_trans h.size k.size, fun j hj hne => (k.block j (Nat.lt_of_lt_of_le hj h.size) hne).trans (h.block j hj hne)⟩
theorem grown_row {W0 W W' : World} {r : Nat} {row : Option Nat} (h : W0.grownBy W (some r)) (k : W.grownBy W' row) (hr : ∀ j, row = some j → W0.heap.size ≤ j) : W0.grownBy W' (some r) :=
  ⟨k.os.trans h.os, k.tape.trans h.tape, k.output.trans h.output, Nat.le_trans h.size k.size, fun j hj hne => (k.block j (Nat.lt_of_lt_of_le hj h.size) (fun e => by have := hr j e.symm; omega)).trans (h.block j hj hne)⟩
theorem keeps_of_grown {W0 W : World} {r : Nat} {t : TypeId} {cs : Array Value} (h : W0.grownBy W (some r)) (hw : Whole W0 r t cs) : ∀ (k : Nat) (o : Obj), W0.heap[k]? = some o → o.isCells = false → W.heap[k]? = some o := fun k o ho hc => by
  have hne : some k ≠ some r := by
    rintro e
    cases e
    unfold Whole at hw
    rw [hw] at ho
    cases ho
    cases hc
  exact (h.block k (Array.getElem?_eq_some_iff.1 ho).1 hne).trans ho
/-- The place, as the loop's measure reads it. -/
def placeOf (b5 : Nat) (W : World) : Nat := match W.cell? ⟨b5, 0, none⟩ with
  | some v => (intOf v).toNat
  | none => 0
theorem SzAt.place {p : Br} {a : Ad} {w W : World} {g b4 b5 t : Nat} {v : Int} (h : SzAt p a w g b4 b5 t v W) : placeOf b5 W = t := by
  have c : W.cell? ⟨b5, 0, none⟩ = some (.int .i64 (t : Int)) := h.at_.cell 0
  unfold placeOf
  rw [c]
  simp [intOf]

theorem lots_boxes {U1 W2 : World} {g : Nat} (h : W2 = ((U1.alloc (.cells funcs0 59)).alloc (.cells #[.int .i64 0] 3)).setRow U1.heap.size (lotsC g)) :
    Whole W2 U1.heap.size 59 (lotsC g) ∧ Whole W2 (U1.heap.size + 1) 3 #[.int .i64 0] ∧ Below U1.heap.size U1 W2 := by
  have hi5 := Whole.new (U1.alloc (.cells funcs0 59)) 3 #[.int .i64 0]
  rw [World.size_alloc] at hi5
  have hl := (Whole.new U1 59 funcs0).alloc (.cells #[.int .i64 0] 3)
  have k4 := Only.row hl (lotsC g)
  have hb9 : Below U1.heap.size U1 ((U1.alloc (.cells funcs0 59)).alloc (.cells #[.int .i64 0] 3)) := ((Below.refl _ _).alloc (Nat.le_refl _) _).alloc (by simp) _
  subst h
  exact ⟨setRow_heap _ _ _ _ _ _ hl, k4.far hi5 (by omega), k4.bel hb9 (Nat.le_refl _)⟩
theorem wpList_storeL {ops : Array Oper} {rest : List Oper} {o : Oper} {a : Act} {w : World} {Q : Exit → Act → World → Prop} (hgd : o.guard = none) (x y : Operand) (ho : o.op = .store 59 x y) (b g : Nat) (old : Array Value) (hs : old.size = 10)
    (hx : a.eval x = .pointer (some ⟨b, 0, none⟩)) (hy : a.eval y = .agg (lotsC g)) (hW : Whole w b 59 old)
    (h : ∀ W2, W2 = w.setRow b (lotsC g) → wpList Tryd.prog ops Q rest (a.put o.dst undef) W2) : wpList Tryd.prog ops Q (o :: rest) a w := by
  refine wpList_store_at hgd 59 x y ho b 0 (lotsC g) hx hy 59 old hW (by kernel_rfl) (by rw [hs]; exact Nat.le_refl _) (lots_one g) (h _ ?_)
  have e : old.toList.drop (0 + (lotsC g).size) = [] := List.drop_of_length_le (by rw [Array.length_toList, hs]; exact Nat.le_refl _)
  rw [e]
  simp

theorem szF_five (p : Br) : cells5 (szF p 5 0) = cells5 fun i => (sumT p i : Int) := by simp [cells5, szF]
/-- The end of 'sizes'. -/
theorem sizes_end {fn : Func} {k b B : Nat} (hres : fn.results = #[.cell k 53]) {tm : Array Value} {ds : List Deferred} {n : Nat} {F : Fence} {W : World} {f : Nat → Int} {R : Ending → World → Prop} (h2 : tm[k]? = some (.pointer (some ⟨b, 0, none⟩))) (hw : Whole W b 53 (cells5 f)) (hm : Marks ds W) (hB : ∀ D, (⟨.collected D, #[]⟩ : Deferred) ∈ ds → B ≤ D)
    (hR : ∀ W', Below B W W' → R (.returned (.agg (cells5 f))) W') : bodyPostM F n Tryd.prog fn R .ret { tmps := tm, defers := ds } W := by
  obtain ⟨Ds, rfl, hnd, hD⟩ := hm
  refine leaves_marks (B := B) Ds W hnd (fun D h => ⟨hD D h, hB D (List.mem_map.2 ⟨D, h, rfl⟩)⟩) (fun W' hb hc => ⟨.agg (cells5 f), ?_, hR W' hb⟩)
  have hl := run_loadVar_row (P := Tryd.prog) W' b 53 53 (cells5 f) (0, 0) _ (hw.cells_ hc) Tryd.underlying53 rfl (by kernel_rfl)
  simp [results, hres, h2, hl, asAddr]
theorem cells5_one (f : Nat → Int) : (cells5 f).all (·.oneCell') = true := by simp [cells5, Value.oneCell']
theorem wpList_store5 {ops : Array Oper} {rest : List Oper} {o : Oper} {a : Act} {w : World} {Q : Exit → Act → World → Prop} (hgd : o.guard = none) (x y : Operand) (ho : o.op = .store 53 x y) (b : Nat) (f : Nat → Int) (old : Array Value) (hs : old.size = 5)
    (hx : a.eval x = .pointer (some ⟨b, 0, none⟩)) (hy : a.eval y = .agg (cells5 f)) (hW : Whole w b 53 old)
    (h : ∀ W2, W2 = w.setRow b (cells5 f) → wpList Tryd.prog ops Q rest (a.put o.dst undef) W2) : wpList Tryd.prog ops Q (o :: rest) a w := by
  refine wpList_store_at hgd 53 x y ho b 0 (cells5 f) hx hy 53 old hW (by kernel_rfl) (by rw [hs]; exact Nat.le_refl _) (cells5_one f) (h _ ?_)
  have e : old.toList.drop (0 + (cells5 f).size) = [] := List.drop_of_length_le (by rw [Array.length_toList, hs]; exact Nat.le_refl _)
  rw [e]
  simp

set_option maxRecDepth 100000 in
set_option maxHeartbeats 4000000 in
theorem sizes_any (p : Br) (a : Ad) (w : World) (hr : RdB_ w w.heap.size p a) (hni : p.its.length ≤ 1000) (hnk : p.kps.length ≤ 1000) :
    Calls Tryd.prog 29 #[brV p a] w fun e w' => e = .returned (.agg (cells5 fun i => (sumT p i : Int))) ∧ Below w.heap.size w w' := by
  obtain ⟨hb, w0, w1⟩ := two_new w 30 53 (brC p a) (cells5 fun _ => 0)
  obtain ⟨V, hV⟩ : ∃ V, (w.alloc (.cells (brC p a) 30)).alloc (.cells (cells5 fun _ => 0) 53) = V := ⟨_, rfl⟩
  have hs : V.heap.size = w.heap.size + 1 + 1 := by rw [← hV]; simp
  rw [hV] at hb w0 w1
  have HR := Lib.hid hr
  have HB := Lib.hid hb
  have HV := Lib.hid hV
  have W0 := Lib.hid w0
  have W1 := Lib.hid w1
  have HS := Lib.hid hs
  have HNI := Lib.hid hni
  have HNK := Lib.hid hnk
  clear hb w0 w1 hr hs hV hni hnk
  refine (callsIn_wide (n := 6)).1 ?_
  refine callsIn_of_wp_marks Tryd.func29 rfl trivial ?_ rfl
  simp only [Tryd.ntmps29, List.size_toArray, List.length_cons, List.length_nil, Nat.reduceAdd, Nat.reduceSub, Array.replicate_succ, Array.replicate_zero, List.push_toArray, List.append_toArray, List.nil_append, List.cons_append]
  refine wpIn_wide.2 ?_
  go_wp2_with fail
  refine wp_scope_back_behind2 0 (fun a' w' => ∃ (g b4 b5 t : Nat) (ds : List Deferred) (u6 u7 u8 u9 u10 u11 u12 u13 u14 u15 u16 u17 u18 u19 u20 u21 u22 u23 u24 u25 u26 u27 u28 u29 u30 u31 u32 u33 u34 u35 u36 u37 u38 : Value), a' = { tmps := #[brV p a, .pointer (some ⟨w.heap.size, 0, none⟩), .pointer (some ⟨w.heap.size + 1, 0, none⟩), .pointer (some ⟨w.heap.size + 1 + 1, 0, none⟩), .pointer (some ⟨b4, 0, none⟩), .pointer (some ⟨b5, 0, none⟩), u6, u7, u8, u9, u10, u11, u12, u13, u14, u15, u16, u17, u18, u19, u20, u21, u22, u23, u24, u25, u26, u27, u28, u29, u30, u31, u32, u33, u34, u35, u36, u37, u38], defers := ds } ∧ t < 5 ∧ SzOrd w g b4 b5 ∧ SzAt p a w g b4 b5 t 0 w' ∧ Marks ds w' ∧ ∀ D, (⟨.collected D, #[]⟩ : Deferred) ∈ ds → w.heap.size ≤ D) (fun a' w' => 5 - placeOf (match a'.tmps.getD 5 undef with | .pointer (some x) => x.block | _ => 0) w') rfl rfl ?ahead (fun a' w' hJ' => ?pass)
  case ahead =>
    refine wpV (fun V2 hV2 => ?_)
    obtain rfl : V = V2 := HV.out.symm.trans hV2
    clear hV2
    go_upto_region 2 with fail
    refine wpV (fun V1 hV1 => ?_)
    have w2 : Whole V1 (w.heap.size + 1 + 1) 53 (cells5 fun _ => 0) := by rw [← hV1, ← HS.out]; exact Whole.new _ _ _
    have hb1 : Below V.heap.size V V1 := by rw [← hV1]; exact (Below.refl _ _).alloc (Nat.le_refl _) _
    have hs1 : V1.heap.size = w.heap.size + 1 + 1 + 1 := by rw [← hV1, World.size_alloc, HS.out]
    rw [HS.out]
    have X0 := Lib.hid (W0.out.under hb1)
    have X1 := Lib.hid (W1.out.under hb1)
    have X2 := Lib.hid w2
    have HB1 := Lib.hid (HB.out.trans (hb1.mono HB.out.size))
    have HS1 := Lib.hid hs1
    clear hb1 w2 hs1 hV1 W0 W1 HB HV
    go_wp2_with (refine wpList_loadB (by rfl) _ rfl w.heap.size p a (by rfl) X0.out ?_)
    refine (told_any p a V1).mono ?_
    rintro e U1 ⟨rfl, hg1, hb2⟩
    obtain ⟨g, hg⟩ : ∃ g, V1.heap.size = g := ⟨_, rfl⟩
    rw [hg] at hg1 ⊢
    have Y0 := Lib.hid (X0.out.under hb2)
    have Y1 := Lib.hid (X1.out.under hb2)
    have Y2 := Lib.hid (X2.out.under hb2)
    have YG := Lib.hid hg1
    have HG := Lib.hid (show w.heap.size + 1 + 1 < g ∧ g < U1.heap.size from ⟨by rw [← hg, HS1.out]; omega, hg1.lt⟩)
    have HB2 := Lib.hid (HB1.out.trans (hb2.mono HB1.out.size))
    clear hg1 hb2 hg HB1 HS1 X0 X1 X2
    go_wp2_with (refine wpList_storeL (by rfl) _ _ rfl U1.heap.size g funcs0 rfl (by rfl) (by rfl) ((Whole.new U1 59 funcs0).alloc _) ?_; intro W2 hW2; have hq := lots_boxes hW2; clear hW2; have c5 : W2.cell? ⟨U1.heap.size + 1, 0, none⟩ = some (.int .i64 0) := hq.2.1.cell 0; have f5 := hq.2.1.frozen 0)
    have Z0 := Y0.out.under hq.2.2
    have Z1 := Y1.out.under hq.2.2
    have Z2 := Y2.out.under hq.2.2
    have ZG := YG.out.under hq.2.2
    have k := Only.set W2 (U1.heap.size + 1) 0 (.int .i64 0)
    have l0 := Z0.lt
    have l1 := Z1.lt
    obtain ⟨h1, h2⟩ := HG.out
    refine ⟨g, _, _, 0, [], ⟨⟨rfl, rfl⟩, rfl⟩, by omega, ⟨h1, h2, by omega⟩, ⟨k.far Z0 (by omega), k.far Z1 (by omega), ?_, k.far hq.1 (by omega), hq.2.1.set 0 _, k.far ZG (by omega), k.bel (HB2.out.trans (hq.2.2.mono HB2.out.size)) (by omega)⟩, Marks.nil_ _, fun D h => (by cases h)⟩
    rw [szF_zero]
    exact k.far Z2 (by omega)
  case pass =>
    obtain ⟨g, b4, b5, t, ds, u6, u7, u8, u9, u10, u11, u12, u13, u14, u15, u16, u17, u18, u19, u20, u21, u22, u23, u24, u25, u26, u27, u28, u29, u30, u31, u32, u33, u34, u35, u36, u37, u38, rfl, ht, hord, hsz, hmk, hds⟩ := hJ'
    have HSz := Lib.hid hsz
    have HSz0 := Lib.hid hsz
    have HOrd := Lib.hid hord
    have HMk := Lib.hid hmk
    have HDs := Lib.hid hds
    have hti : (t : Int) < 5 := by omega
    clear HV HB W0 W1 HS hsz hord hmk hds
    go_upto_region 3 with fail
    refine wp_mono (Q := fun e a9 w9 => e = .normal ∧ ∃ b1 b2, a9 = { tmps := #[brV p a, .pointer (some ⟨w.heap.size, 0, none⟩), .pointer (some ⟨w.heap.size + 1, 0, none⟩), .pointer (some ⟨w.heap.size + 1 + 1, 0, none⟩), .pointer (some ⟨b4, 0, none⟩), .pointer (some ⟨b5, 0, none⟩), u6, u7, .pointer (some ⟨w.heap.size, 18, none⟩), .slice a.A p.its.length a.c, .int .i64 (t : Int), .pointer (some ⟨b4, t * 2, none⟩), .pointer (some ⟨b4, t * 2, none⟩), .func (.func (FI t)) #[] (LB g t), .func (.func 59) #[] #[.pointer (some ⟨b1, 0, none⟩), .pointer (some ⟨b2, 0, none⟩)], u15, u16, u17, u18, u19, u20, u21, u22, u23, u24, u25, u26, u27, u28, u29, u30, u31, u32, u33, u34, u35, u36, u37, u38], defers := ds } ∧ w'.heap.size ≤ b1 ∧ w'.heap.size ≤ b2 ∧ Whole w9 b1 25 #[.slice a.A p.its.length a.c] ∧ Whole w9 b2 55 #[.func (.func (FI t)) #[] (LB g t)] ∧ Below w'.heap.size w' w9) ?reg3 ?rest3
    case reg3 =>
      have HL : Hid (∀ V', Below w'.heap.size w' V' → V'.cell? ⟨w.heap.size, 18, none⟩ = some (.slice a.A p.its.length a.c) ∧ V'.cell? ⟨b5, 0, none⟩ = some (.int .i64 (t : Int)) ∧ V'.cell? ⟨b4, t * 2, none⟩ = some (.func (.func (FI t)) #[] (LB g t))) := Lib.hid (fun V' hV => ⟨(HSz.out.br.under hV).cell 18, (HSz.out.at_.under hV).cell 0, ((HSz.out.lots.under hV).cell (t * 2)).trans (lots_I ht)⟩)
      have HBd := Lib.hid (show Below w'.heap.size w' w'.drew from below_drewB (Below.refl _ _) 1)
      refine wp_region_T (ls := []) (T := (fun V' => Below w'.heap.size w' V')) (by kernel_rfl) ?_
      refine takeP (i := 0) (v := ?_) rfl (by kernel_rfl) (by kernel_rfl) (by kernel_rfl) (by kernel_rfl) (fun _ _ _ h => nomatch h.1) (by rfl) ?_ (fun _ => HBd.out) ?_
      rotate_left
      · intro V'; go_simp <;> with_reducible rfl
      simp only [Act.put, List.setIfInBounds_toArray, List.set_cons_zero, List.set_cons_succ]
      refine takeT (i := 1) (v := ?_) rfl (by kernel_rfl) (by kernel_rfl) (by kernel_rfl) (by kernel_rfl) (fun _ _ _ h => nomatch h.1) (by rfl) ?_ HBd.out ?_
      rotate_left
      · intro V' hV; obtain ⟨y0, y1, y2⟩ := HL.out V' hV; go_simp <;> with_reducible rfl
      simp only [Act.put, List.setIfInBounds_toArray, List.set_cons_zero, List.set_cons_succ]
      refine takeT (i := 2) (v := ?_) rfl (by kernel_rfl) (by kernel_rfl) (by kernel_rfl) (by kernel_rfl) (fun _ _ _ h => nomatch h.1) (by rfl) ?_ HBd.out ?_
      rotate_left
      · intro V' hV; obtain ⟨y0, y1, y2⟩ := HL.out V' hV; go_simp <;> with_reducible rfl
      simp only [Act.put, List.setIfInBounds_toArray, List.set_cons_zero, List.set_cons_succ]
      refine takeP (i := 3) (v := ?_) rfl (by kernel_rfl) (by kernel_rfl) (by kernel_rfl) (by kernel_rfl) (fun _ _ _ h => nomatch h.1) (by rfl) ?_ (fun _ => HBd.out) ?_
      rotate_left
      · intro V'; go_simp <;> with_reducible rfl
      simp only [Act.put, List.setIfInBounds_toArray, List.set_cons_zero, List.set_cons_succ]
      refine takeP (i := 4) (v := ?_) rfl (by kernel_rfl) (by kernel_rfl) (by kernel_rfl) (by kernel_rfl) (fun _ _ _ h => nomatch h.1) (by rfl) ?_ (fun _ => HBd.out) ?_
      rotate_left
      · intro V'; go_simp <;> with_reducible rfl
      simp only [Act.put, List.setIfInBounds_toArray, List.set_cons_zero, List.set_cons_succ]
      refine takeT (i := 5) (v := ?_) rfl (by kernel_rfl) (by kernel_rfl) (by kernel_rfl) (by kernel_rfl) (fun _ _ _ h => nomatch h.1) (by rfl) ?_ HBd.out ?_
      rotate_left
      · intro V' hV; obtain ⟨y0, y1, y2⟩ := HL.out V' hV; go_simp <;> with_reducible rfl
      simp only [Act.put, List.setIfInBounds_toArray, List.set_cons_zero, List.set_cons_succ]
      refine oneT (i := 6) rfl (by kernel_rfl) (by rfl) (fun K hK => ?_)
      go_simp
      refine (itIn_any a.A p.its.length a.c (FI t) (LB g t) w'.drew).mono ?_
      rintro e w'_1 ⟨b1, b2, rfl, hl1, hl2, hx1, hx2, hb_⟩
      have HB_1 := Lib.hid (show Below w'.heap.size w' w'_1 from HBd.out.trans (hb_.mono HBd.out.size))
      clear hb_ HBd
      refine hK.out _ _ (fun _ => HB_1.out) ?_
      clear hK K
      refine doneT (by kernel_rfl) ?_ _
      exact ⟨rfl, b1, b2, rfl, hl1, hl2, hx1, hx2, HB_1.out⟩
    case rest3 =>
      rintro e a9 w9 ⟨rfl, b1, b2, rfl, hl1, hl2, hx1, hx2, hb1⟩
      have HSz1 := Lib.hid (HSz.out.under hb1)
      have HMk1 := Lib.hid (HMk.out.under hb1)
      have HX1 := Lib.hid hx1
      have HX2 := Lib.hid hx2
      have HL := Lib.hid (show ∀ b ∈ [b1, b2, g], b < w9.heap.size from by
        intro b hb
        rcases List.mem_cons.1 hb with rfl | hb
        · exact hx1.lt
        · rcases List.mem_cons.1 hb with rfl | hb
          · exact hx2.lt
          · rcases List.mem_cons.1 hb with rfl | hb
            · exact HSz1.out.gb.lt
            · cases hb)
      have HO := Lib.hid (show w.heap.size + 1 + 1 < b1 ∧ w.heap.size + 1 + 1 < b2 from by
        have := HSz.out.n.lt
        omega)
      have HNe := Lib.hid (show ∀ b ∈ [b1, b2, g], b ≠ w.heap.size + 1 + 1 from by
        intro b hb
        have h1 := HO.out
        have h2 := HOrd.out.1
        rcases List.mem_cons.1 hb with rfl | hb
        · omega
        · rcases List.mem_cons.1 hb with rfl | hb
          · omega
          · rcases List.mem_cons.1 hb with rfl | hb
            · omega
            · cases hb)
      clear hl1 hl2 hx1 hx2 hb1 HSz HMk
      go_wp2_with fail
      refine (wpIn_wide (n := 6)).1 ?_
      refine wpIn_range_mem (by omega) (gf := 59) (lb := #[.pointer (some ⟨b1, 0, none⟩), .pointer (some ⟨b2, 0, none⟩)]) rfl (enters_of Tryd.func59 (by kernel_rfl) rfl) (encs := encIt)
        (itIn_mem 5 b1 b2 w.heap.size [b1, b2, g] (FI t) (LB g t) (qI p t) a.A p.its.length a.c p.its (by have := HNI.out; omega) (by omega) (by simp) (by simp) (enterI t) w9 (fun x W hW => sayI p a g t x W (HSz1.out.gb.kpd hW (by simp))) HX1.out HX2.out (HR.out.its.below HSz1.out.below) HSz1.out.below.size HL.out)
        (fun h k => h.trans k)
        (fun W l o o' hl _ _ _ => KpD.put (Nat.le_trans HSz1.out.below.size hl) (fun b hb => Nat.lt_of_lt_of_le (HL.out b hb) hl)) (Below.refl _ _) (fun _ => rfl)
        (fun pre W => SzAt p a w g b4 b5 t (pre.length : Int) W ∧ w9.grownBy W (some (w.heap.size + 1 + 1))) (fun _ _ => False)
        (fun pre W1 W2 row h hg hr => ⟨h.1.turn hg (fun r e => ⟨Nat.le_trans HSz1.out.below.size (hr r e).1, (hr r e).2⟩), grown_row h.2 hg (fun j e => (hr j e).1)⟩) (fun _ _ _ _ h _ _ => h.elim) ⟨HSz1.out, World.grownBy.refl _ _⟩
        (fun pre x a' W => OkIn (p.its.filter (qI p t)) pre x W ∧ a' = { tmps := #[brV p a, .pointer (some ⟨w.heap.size, 0, none⟩), .pointer (some ⟨w.heap.size + 1, 0, none⟩), .pointer (some ⟨w.heap.size + 1 + 1, 0, none⟩), .pointer (some ⟨b4, 0, none⟩), .pointer (some ⟨b5, 0, none⟩), u6, u7, .pointer (some ⟨w.heap.size, 18, none⟩), .slice a.A p.its.length a.c, .int .i64 (t : Int), .pointer (some ⟨b4, t * 2, none⟩), .pointer (some ⟨b4, t * 2, none⟩), .func (.func (FI t)) #[] (LB g t), .func (.func 59) #[] #[.pointer (some ⟨b1, 0, none⟩), .pointer (some ⟨b2, 0, none⟩)], .agg #[.int .i64 x.tok, .int .i64 x.ver, .int .i64 x.zone, .bool x.warm], u16, u17, u18, u19, u20, u21, u22, u23, u24, u25, u26, u27, u28, u29, u30, u31, u32, u33, u34, u35, u36, u37, u38], defers := [] })
        (fun a' p X Y row hs hg hr => ⟨hs.1, hs.2⟩) ?assign3 ?body3 ?done3 ?stop3
      case assign3 =>
        rintro lp pre x W K hI hOk hK
        have HI_ := Lib.hid hI
        have HOk_ := Lib.hid hOk
        clear hI hOk
        unfold encIt
        gi_wp2
        exact hK _ _ (KeepsFrom.refl _ _) (KpD.refl _ _ _) HI_.out ⟨HOk_.out, rfl⟩
      case stop3 =>
        rintro D c W hD h hK
        exact h.elim
      case body3 =>
        rintro lp pre x a' W hlp hI ⟨hok, rfl⟩
        have HI := Lib.hid hI
        have hpl : pre.length < p.its.length := by
          have h1 := hok.length_le
          have h2 := (sumT_le p t)
          simp at h1
          omega
        have HPl := Lib.hid hpl
        clear hI hok hpl
        obtain ⟨n, hn⟩ : ∃ n : Int, (pre.length : Int) = n := ⟨_, rfl⟩
        have hw : IntKind.i64.wrap (n + 1) = n + 1 := by
          have h1 := HPl.out
          have h2 := sumT_le p t
          have h3 := HNI.out
          have h4 := HNK.out
          exact wrapS (by omega) (by omega)
        have c5 : W.cell? ⟨b5, 0, none⟩ = some (.int .i64 (t : Int)) := HI.out.1.at_.cell 0
        have c3 : W.cell? ⟨w.heap.size + 1 + 1, t, none⟩ = some (.int .i64 n) := by rw [← hn]; have h1 := (HI.out.1.n.cell t).trans (cells5_at _ ht); rw [szF_at] at h1; exact h1
        have f3 : W.frozen? ⟨w.heap.size + 1 + 1, t, none⟩ = false := HI.out.1.n.frozen t
        have HNn := Lib.hid hn
        clear hn
        gi_wp2_with fail
        have k := Only.set W (w.heap.size + 1 + 1) t (.int .i64 (n + 1))
        have e : ((pre ++ [x]).length : Int) = n + 1 := by
          rw [← HNn.out]
          simp
          try omega
        refine ⟨k.keeps.from _, ⟨k.bel (Below.refl _ _) (by omega), fun b hb => k.grown.block b (Nat.lt_of_lt_of_le (HL.out b hb) HI.out.2.size) (fun e => HNe.out b hb (Option.some.inj e))⟩, ?_, grown_cell HI.out.2⟩
        rw [e]
        exact HI.out.1.inc HOrd.out ht (n + 1)
      case done3 =>
        rintro D ys W hD rfl hI hK
        have HSz9 := Lib.hid hI.1
        have HMk9 := Lib.hid ((HMk1.out.kept (keeps_of_grown hI.2 HSz1.out.n)).cons hK (fun D' h => by have := HMk1.out.lt h; omega))
        have HDs9 := Lib.hid (show ∀ D', (⟨.collected D', #[]⟩ : Deferred) ∈ ({ target := .collected D, args := #[] } :: ds : List Deferred) → w.heap.size ≤ D' from by
          intro D' h
          rcases List.mem_cons.1 h with h | h
          · cases h
            have := HSz1.out.below.size
            omega
          · exact HDs.out D' h)
        clear hI hK hD
        obtain ⟨ds2, hds2⟩ : ∃ ds2 : List Deferred, ({ target := .collected D, args := #[] } :: ds : List Deferred) = ds2 := ⟨_, rfl⟩
        rw [hds2] at HMk9 HDs9 ⊢
        clear hds2 HX1 HX2 HL HO HNe HSz1 HMk1 HDs
        go_upto_region 5 with fail
        refine wp_mono (Q := fun e a9 w9 => e = .normal ∧ ∃ d1 d2, a9 = { tmps := #[brV p a, .pointer (some ⟨w.heap.size, 0, none⟩), .pointer (some ⟨w.heap.size + 1, 0, none⟩), .pointer (some ⟨w.heap.size + 1 + 1, 0, none⟩), .pointer (some ⟨b4, 0, none⟩), .pointer (some ⟨b5, 0, none⟩), u6, u7, .pointer (some ⟨w.heap.size, 18, none⟩), .slice a.A p.its.length a.c, .int .i64 (t : Int), .pointer (some ⟨b4, t * 2, none⟩), .pointer (some ⟨b4, t * 2, none⟩), .func (.func (FI t)) #[] (LB g t), .func (.func 59) #[] #[.pointer (some ⟨b1, 0, none⟩), .pointer (some ⟨b2, 0, none⟩)], u15, u16, u17, u18, u19, u20, .pointer (some ⟨w.heap.size, 19, none⟩), .slice a.B p.kps.length a.d, .int .i64 (t : Int), .pointer (some ⟨b4, t * 2, none⟩), .pointer (some ⟨b4, t * 2 + 1, none⟩), .func (.func (FK t)) #[] (LB g t), .func (.func 60) #[] #[.pointer (some ⟨d1, 0, none⟩), .pointer (some ⟨d2, 0, none⟩)], u28, u29, u30, u31, u32, u33, u34, u35, u36, u37, u38], defers := ds2 } ∧ W.heap.size ≤ d1 ∧ W.heap.size ≤ d2 ∧ Whole w9 d1 26 #[.slice a.B p.kps.length a.d] ∧ Whole w9 d2 56 #[.func (.func (FK t)) #[] (LB g t)] ∧ Below W.heap.size W w9) ?reg5 ?rest5
        case reg5 =>
          have HL : Hid (∀ V', Below W.heap.size W V' → V'.cell? ⟨w.heap.size, 19, none⟩ = some (.slice a.B p.kps.length a.d) ∧ V'.cell? ⟨b5, 0, none⟩ = some (.int .i64 (t : Int)) ∧ V'.cell? ⟨b4, t * 2 + 1, none⟩ = some (.func (.func (FK t)) #[] (LB g t))) := Lib.hid (fun V' hV => ⟨(HSz9.out.br.under hV).cell 19, (HSz9.out.at_.under hV).cell 0, ((HSz9.out.lots.under hV).cell (t * 2 + 1)).trans (lots_K ht)⟩)
          have HBd := Lib.hid (show Below W.heap.size W W.drew from below_drewB (Below.refl _ _) 1)
          refine wp_region_T (ls := []) (T := (fun V' => Below W.heap.size W V')) (by kernel_rfl) ?_
          refine takeP (i := 0) (v := ?_) rfl (by kernel_rfl) (by kernel_rfl) (by kernel_rfl) (by kernel_rfl) (fun _ _ _ h => nomatch h.1) (by rfl) ?_ (fun _ => HBd.out) ?_
          rotate_left
          · intro V'; go_simp <;> with_reducible rfl
          simp only [Act.put, List.setIfInBounds_toArray, List.set_cons_zero, List.set_cons_succ]
          refine takeT (i := 1) (v := ?_) rfl (by kernel_rfl) (by kernel_rfl) (by kernel_rfl) (by kernel_rfl) (fun _ _ _ h => nomatch h.1) (by rfl) ?_ HBd.out ?_
          rotate_left
          · intro V' hV; obtain ⟨y0, y1, y2⟩ := HL.out V' hV; go_simp <;> with_reducible rfl
          simp only [Act.put, List.setIfInBounds_toArray, List.set_cons_zero, List.set_cons_succ]
          refine takeT (i := 2) (v := ?_) rfl (by kernel_rfl) (by kernel_rfl) (by kernel_rfl) (by kernel_rfl) (fun _ _ _ h => nomatch h.1) (by rfl) ?_ HBd.out ?_
          rotate_left
          · intro V' hV; obtain ⟨y0, y1, y2⟩ := HL.out V' hV; go_simp <;> with_reducible rfl
          simp only [Act.put, List.setIfInBounds_toArray, List.set_cons_zero, List.set_cons_succ]
          refine takeP (i := 3) (v := ?_) rfl (by kernel_rfl) (by kernel_rfl) (by kernel_rfl) (by kernel_rfl) (fun _ _ _ h => nomatch h.1) (by rfl) ?_ (fun _ => HBd.out) ?_
          rotate_left
          · intro V'; go_simp <;> with_reducible rfl
          simp only [Act.put, List.setIfInBounds_toArray, List.set_cons_zero, List.set_cons_succ]
          refine takeP (i := 4) (v := ?_) rfl (by kernel_rfl) (by kernel_rfl) (by kernel_rfl) (by kernel_rfl) (fun _ _ _ h => nomatch h.1) (by rfl) ?_ (fun _ => HBd.out) ?_
          rotate_left
          · intro V'; go_simp <;> with_reducible rfl
          simp only [Act.put, List.setIfInBounds_toArray, List.set_cons_zero, List.set_cons_succ]
          refine takeT (i := 5) (v := ?_) rfl (by kernel_rfl) (by kernel_rfl) (by kernel_rfl) (by kernel_rfl) (fun _ _ _ h => nomatch h.1) (by rfl) ?_ HBd.out ?_
          rotate_left
          · intro V' hV; obtain ⟨y0, y1, y2⟩ := HL.out V' hV; go_simp <;> with_reducible rfl
          simp only [Act.put, List.setIfInBounds_toArray, List.set_cons_zero, List.set_cons_succ]
          refine oneT (i := 6) rfl (by kernel_rfl) (by rfl) (fun K hK => ?_)
          go_simp
          refine (kpIn_any a.B p.kps.length a.d (FK t) (LB g t) W.drew).mono ?_
          rintro e W_1 ⟨d1, d2, rfl, hl1, hl2, hx1, hx2, hb_⟩
          have HB_1 := Lib.hid (show Below W.heap.size W W_1 from HBd.out.trans (hb_.mono HBd.out.size))
          clear hb_ HBd
          refine hK.out _ _ (fun _ => HB_1.out) ?_
          clear hK K
          refine doneT (by kernel_rfl) ?_ _
          exact ⟨rfl, d1, d2, rfl, hl1, hl2, hx1, hx2, HB_1.out⟩
        case rest5 =>
          rintro e a9 w5 ⟨rfl, d1, d2, rfl, hl1, hl2, hx1, hx2, hb1⟩
          have HSz5 := Lib.hid (HSz9.out.under hb1)
          have HMk5 := Lib.hid (HMk9.out.under hb1)
          have HY1 := Lib.hid hx1
          have HY2 := Lib.hid hx2
          have HL5 := Lib.hid (show ∀ b ∈ [d1, d2, g], b < w5.heap.size from by
            intro b hb
            rcases List.mem_cons.1 hb with rfl | hb
            · exact hx1.lt
            · rcases List.mem_cons.1 hb with rfl | hb
              · exact hx2.lt
              · rcases List.mem_cons.1 hb with rfl | hb
                · exact HSz5.out.gb.lt
                · cases hb)
          have HO5 := Lib.hid (show w.heap.size + 1 + 1 < d1 ∧ w.heap.size + 1 + 1 < d2 from by
            have := HSz9.out.n.lt
            omega)
          have HNe5 := Lib.hid (show ∀ b ∈ [d1, d2, g], b ≠ w.heap.size + 1 + 1 from by
            intro b hb
            have h1 := HO5.out
            have h2 := HOrd.out.1
            rcases List.mem_cons.1 hb with rfl | hb
            · omega
            · rcases List.mem_cons.1 hb with rfl | hb
              · omega
              · rcases List.mem_cons.1 hb with rfl | hb
                · omega
                · cases hb)
          clear hl1 hl2 hx1 hx2 hb1 HSz9 HMk9
          go_wp2_with fail
          refine (wpIn_wide (n := 6)).1 ?_
          refine wpIn_range_mem (by omega) (gf := 60) (lb := #[.pointer (some ⟨d1, 0, none⟩), .pointer (some ⟨d2, 0, none⟩)]) rfl (enters_of Tryd.func60 (by kernel_rfl) rfl) (encs := encKp)
            (kpIn_mem 5 d1 d2 w.heap.size [d1, d2, g] (FK t) (LB g t) (qK p t) a.B p.kps.length a.d p.kps (by have := HNK.out; omega) (by omega) (by simp) (by simp) (enterK t) w5 (fun x W hW => sayK p a g t x W (HSz5.out.gb.kpd hW (by simp))) HY1.out HY2.out (HR.out.kps.below HSz5.out.below) HSz5.out.below.size HL5.out)
            (fun h k => h.trans k)
            (fun W l o o' hl _ _ _ => KpD.put (Nat.le_trans HSz5.out.below.size hl) (fun b hb => Nat.lt_of_lt_of_le (HL5.out b hb) hl)) (Below.refl _ _) (fun _ => rfl)
            (fun pre W => SzAt p a w g b4 b5 t (((p.its.filter (qI p t)).length : Int) + (pre.length : Int)) W ∧ w5.grownBy W (some (w.heap.size + 1 + 1))) (fun _ _ => False)
            (fun pre W1 W2 row h hg hr => ⟨h.1.turn hg (fun r e => ⟨Nat.le_trans HSz5.out.below.size (hr r e).1, (hr r e).2⟩), grown_row h.2 hg (fun j e => (hr j e).1)⟩) (fun _ _ _ _ h _ _ => h.elim) ⟨(by simpa using HSz5.out), World.grownBy.refl _ _⟩
            (fun pre x a' W => OkIn (p.kps.filter (qK p t)) pre x W ∧ a' = { tmps := #[brV p a, .pointer (some ⟨w.heap.size, 0, none⟩), .pointer (some ⟨w.heap.size + 1, 0, none⟩), .pointer (some ⟨w.heap.size + 1 + 1, 0, none⟩), .pointer (some ⟨b4, 0, none⟩), .pointer (some ⟨b5, 0, none⟩), u6, u7, .pointer (some ⟨w.heap.size, 18, none⟩), .slice a.A p.its.length a.c, .int .i64 (t : Int), .pointer (some ⟨b4, t * 2, none⟩), .pointer (some ⟨b4, t * 2, none⟩), .func (.func (FI t)) #[] (LB g t), .func (.func 59) #[] #[.pointer (some ⟨b1, 0, none⟩), .pointer (some ⟨b2, 0, none⟩)], u15, u16, u17, u18, u19, u20, .pointer (some ⟨w.heap.size, 19, none⟩), .slice a.B p.kps.length a.d, .int .i64 (t : Int), .pointer (some ⟨b4, t * 2, none⟩), .pointer (some ⟨b4, t * 2 + 1, none⟩), .func (.func (FK t)) #[] (LB g t), .func (.func 60) #[] #[.pointer (some ⟨d1, 0, none⟩), .pointer (some ⟨d2, 0, none⟩)], x.v, u29, u30, u31, u32, u33, u34, u35, u36, u37, u38], defers := [] })
            (fun a' p X Y row hs hg hr => ⟨hs.1, hs.2⟩) ?assign5 ?body5 ?done5 ?stop5
          case assign5 =>
            rintro lp pre x W K hI hOk hK
            have HI_ := Lib.hid hI
            have HOk_ := Lib.hid hOk
            clear hI hOk
            unfold encKp
            gi_wp2
            exact hK _ _ (KeepsFrom.refl _ _) (KpD.refl _ _ _) HI_.out ⟨HOk_.out, rfl⟩
          case stop5 =>
            rintro D c W hD h hK
            exact h.elim
          case body5 =>
            rintro lp pre x a' W hlp hI ⟨hok, rfl⟩
            have HI := Lib.hid hI
            have hpl : pre.length < p.kps.length := by
              have h1 := hok.length_le
              have h2 := (sumT_le p t)
              simp at h1
              omega
            have HPl := Lib.hid hpl
            clear hI hok hpl
            obtain ⟨n, hn⟩ : ∃ n : Int, (((p.its.filter (qI p t)).length : Int) + (pre.length : Int)) = n := ⟨_, rfl⟩
            have hw : IntKind.i64.wrap (n + 1) = n + 1 := by
              have h1 := HPl.out
              have h2 := sumT_le p t
              have h3 := HNI.out
              have h4 := HNK.out
              exact wrapS (by omega) (by omega)
            have c5 : W.cell? ⟨b5, 0, none⟩ = some (.int .i64 (t : Int)) := HI.out.1.at_.cell 0
            have c3 : W.cell? ⟨w.heap.size + 1 + 1, t, none⟩ = some (.int .i64 n) := by rw [← hn]; have h1 := (HI.out.1.n.cell t).trans (cells5_at _ ht); rw [szF_at] at h1; exact h1
            have f3 : W.frozen? ⟨w.heap.size + 1 + 1, t, none⟩ = false := HI.out.1.n.frozen t
            have HNn := Lib.hid hn
            clear hn
            gi_wp2_with fail
            have k := Only.set W (w.heap.size + 1 + 1) t (.int .i64 (n + 1))
            have e : (((p.its.filter (qI p t)).length : Int) + ((pre ++ [x]).length : Int)) = n + 1 := by
              rw [← HNn.out]
              simp
              try omega
            refine ⟨k.keeps.from _, ⟨k.bel (Below.refl _ _) (by omega), fun b hb => k.grown.block b (Nat.lt_of_lt_of_le (HL5.out b hb) HI.out.2.size) (fun e => HNe5.out b hb (Option.some.inj e))⟩, ?_, grown_cell HI.out.2⟩
            rw [e]
            exact HI.out.1.inc HOrd.out ht (n + 1)
          case done5 =>
            rintro D ys W hD rfl hI hK
            have HSz9 := Lib.hid hI.1
            have HMk9 := Lib.hid ((HMk5.out.kept (keeps_of_grown hI.2 HSz5.out.n)).cons hK (fun D' h => by have := HMk5.out.lt h; omega))
            have HDs9 := Lib.hid (show ∀ D', (⟨.collected D', #[]⟩ : Deferred) ∈ ({ target := .collected D, args := #[] } :: ds2 : List Deferred) → w.heap.size ≤ D' from by
              intro D' h
              rcases List.mem_cons.1 h with h | h
              · cases h
                have := HSz5.out.below.size
                omega
              · exact HDs9.out D' h)
            clear hI hK hD
            obtain ⟨ds3, hds3⟩ : ∃ ds3 : List Deferred, ({ target := .collected D, args := #[] } :: ds2 : List Deferred) = ds3 := ⟨_, rfl⟩
            rw [hds3] at HMk9 HDs9 ⊢
            have HSzT := Lib.hid (show SzAt p a w g b4 b5 t (sumT p t : Int) W from by
              have h := HSz9.out
              rw [show (((p.its.filter (qI p t)).length : Int) + ((p.kps.filter (qK p t)).length : Int)) = (sumT p t : Int) from by simp [sumT]] at h
              exact h)
            clear hds3 HY1 HY2 HL5 HO5 HNe5 HSz5 HMk5 HSz9
            go_upto_region 7 with fail
            have c5 : W.cell? ⟨b5, 0, none⟩ = some (.int .i64 (t : Int)) := HSzT.out.at_.cell 0
            have f5 : W.frozen? ⟨b5, 0, none⟩ = false := HSzT.out.at_.frozen 0
            have hw : IntKind.i64.wrap ((t : Int) + 1) = (t : Int) + 1 := wrapS (by omega) (by omega)
            have HSn := Lib.hid (HSzT.out.step HOrd.out)
            have HMn := Lib.hid (HMk9.out.kept (Only.set W b5 0 (.int .i64 ((t : Int) + 1))).keeps.same)
            go_upto_region 8 with fail
            refine wpV (fun W8 hW8 => ?_)
            rw [hW8] at HSn HMn
            clear c5 f5 hw hW8 HSzT HMk9
            have c5 : W8.cell? ⟨b5, 0, none⟩ = some (.int .i64 ((t + 1 : Nat) : Int)) := HSn.out.at_.cell 0
            by_cases hlt : t + 1 < 5
            · have hlt' : ((t + 1 : Nat) : Int) < 5 := by omega
              go_wp2_with fail
              refine wp_goto ?_
              refine ⟨rfl, ⟨g, b4, b5, t + 1, ds3, _, _, _, _, _, _, _, _, _, _, _, _, _, _, _, _, _, _, _, _, _, _, _, _, _, _, _, _, _, _, _, _, _, rfl, hlt, HOrd.out, HSn.out, HMn.out, HDs9.out⟩, ?_⟩
              have h1 := HSn.out.place
              have h2 := HSz0.out.place
              simp [h1, h2]
              omega
            · have hlt' : ¬ ((t + 1 : Nat) : Int) < 5 := by omega
              have ht4 : t + 1 = 5 := by omega
              rw [ht4] at HSn
              go_wp2_with (first | refine wpList_load_row (by rfl) 53 _ rfl (w.heap.size + 1 + 1) (by rfl) 53 _ (0, 0) _ HSn.out.n Tryd.underlying53 rfl (by kernel_rfl) ?_ | (refine wpList_store5 (by rfl) _ _ rfl (w.heap.size + 1) (szF p 5 0) _ rfl (by rfl) (by rfl) HSn.out.res ?_; intro W9 hW9))
              simp only [Exit.jump]
              exact sizes_end (B := w.heap.size) rfl rfl (setRow_heap _ _ _ _ _ _ HSn.out.res) (HMn.out.kept (Only.row HSn.out.res _).keeps.same) HDs9.out (fun W' h => ⟨by rw [szF_five], ((Only.row HSn.out.res _).bel HSn.out.below (by omega)).trans h⟩)

end Go.Proofs.YtplejbgecihnpaaDoor

namespace Go.Proofs.YtplejbgecihnpaaDoor
open Go.RowKit Go.Shelf

def ZonesPost (zs : List Int) (w : World) (e : Ending) (w' : World) : Prop := ∃ A c, e = .returned (.slice A zs.length c) ∧ Rd w' w'.heap.size A zs.length (iv zs) ∧ Below w.heap.size w w'
end Go.Proofs.YtplejbgecihnpaaDoor

namespace Go.Proofs.YtplejbgecihnpaaDoor
open Go.RowKit Go.Shelf

/-- A brain that a function of package count can be handed. -/
structure BrNow (p : Br) (a : Ad) (w : World) : Prop where
  rd : RdB_ w w.heap.size p a
  tab : Tab w
  its : p.its.length ≤ 1000
  kps : p.kps.length ≤ 1000
  ms : p.cf.ms.length ≤ 1000
theorem BrNow.under {p : Br} {a : Ad} {w w' : World} (h : BrNow p a w) (hb : Below w.heap.size w w') : BrNow p a w' := ⟨h.rd.up hb, h.tab.under hb, h.its, h.kps, h.ms⟩
/-- What package count's functions tell. -/
structure CountOk : Prop where
  of : ∀ (p : Br) (a : Ad) (w : World), BrNow p a w → Calls Tryd.prog 10 #[brV p a] w fun e w' => e = .returned (countB p).v ∧ Below w.heap.size w w'
  ver : ∀ (p : Br) (a : Ad) (w : World), BrNow p a w → Calls Tryd.prog 12 #[brV p a] w (IntPost (verB p) w)
  isOld : ∀ (p : Br) (a : Ad) (x : Kp) (w : World), BrNow p a w → Calls Tryd.prog 14 #[brV p a, x.v] w (BoolPost (oldK p x) w)
  meant : ∀ (p : Br) (a : Ad) (x : It) (w : World), BrNow p a w → Calls Tryd.prog 16 #[brV p a, .agg #[.int .i64 x.tok, .int .i64 x.ver, .int .i64 x.zone, .bool x.warm]] w (BoolPost (!oldI p x) w)
  zones : ∀ (p : Br) (a : Ad) (w : World), BrNow p a w → Calls Tryd.prog 19 #[brV p a] w (ZonesPost (zonesB p) w)
  full : ∀ (p : Br) (a : Ad) (w : World), BrNow p a w → Calls Tryd.prog 21 #[brV p a] w (BoolPost (fullB p) w)

end Go.Proofs.YtplejbgecihnpaaDoor
