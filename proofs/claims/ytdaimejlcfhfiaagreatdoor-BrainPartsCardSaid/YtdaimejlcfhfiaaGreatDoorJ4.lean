/-
  Texts that the walks of the statements over logs lean on, joined (RegionIn, RangeMem, Scope2). Conditions: those that each theorem names.
-/
import Derived.Test.YtdaimejlcfhfiaaGreatDoorJ0
import Derived.Test.YtdaimejlcfhfiaaGreatDoorJ1
import Derived.OrdersIn
import Derived.RangeFuncNested

/-
  A region that draws its order, inside a round of a range over a function, by an invariant: one step an operation, whatever the order. Conditions: those that each theorem names.
-/
namespace Go.Proofs.YtdaimejlcfhfiaaGreatDoor
open Go.RowKit Go.Shelf

section
variable {F : Fence} {m : Nat} {P : Program} {ops : Array Oper} {Q : Exit → Act → World → Prop}

set_option maxRecDepth 100000 in
theorem wpAnyIn_inv (hl : lowOnly ops = true) (Φ : (Nat → Bool) → Act → World → Prop)
    (step : ∀ i o L a w, ops[i]? = some o → L i = false → (∀ e ∈ o.after, Region.binds .any e = true → L e.on = true) → Φ L a w → wpOpIn F m P ops Q i (Φ (fun j => if j = i then true else L j)) a w)
    (fin : ∀ L a w, (∀ i, i < ops.size → L i = true) → Φ L a w → Q .normal a w) :
    ∀ (fuel : Nat) (listed : Array Bool) (a : Act) (w : World), listed.size = ops.size → listed.toList.count false ≤ fuel → Φ (fun j => listed.getD j false) a w → wpAnyIn F m P .any ops Q fuel listed a w := by
  intro fuel
  induction fuel with
  | zero =>
    intro listed a w hs hc hΦ
    have hall := count_zero_all (Nat.le_zero.1 hc)
    have hall' : ∀ i, i < ops.size → listed.getD i false = true := fun i hi => by
      have := hall i (by simp; omega)
      simp at this
      simp [this]
    refine ⟨?_, fin _ _ _ hall' hΦ⟩
    refine List.eq_nil_iff_forall_not_mem.2 fun i hm => ?_
    obtain ⟨h1, o, ho, _⟩ := mem_ready.1 hm
    have hlt : i < ops.size := (Array.getElem?_eq_some_iff.1 ho).1
    have h2 := hall' i hlt
    have : i < listed.size := by omega
    simp [this] at h1 h2
    rw [h1] at h2; cases h2
  | succ fuel ih =>
    intro listed a w hs hc hΦ
    refine ⟨fun h0 => fin _ _ _ (fun i hi => ready_none hl hs h0 (i + 1) i (by omega) hi) hΦ, fun i hi => ?_⟩
    obtain ⟨h1, o, ho, hall⟩ := mem_ready.1 hi
    have hlt : i < listed.size := by have := (Array.getElem?_eq_some_iff.1 ho).1; omega
    refine wpOpIn_mono (fun a' w' h => ih (listed.setIfInBounds i true) a' w' (by simpa using hs) ?_ (by rw [set_L hlt]; exact h)) (step i o _ a w ho (by simp [hlt] at h1 ⊢; exact h1) hall hΦ)
    have := count_set h1
    omega

set_option maxRecDepth 100000 in
/-- The same, and the steps know that what has come up has come up behind what it waits for. -/
theorem region_cloIn {id : Nat} {a : Act} {w : World} (hm : P.follows .mixedOrders = true) (hl : lowOnly ops = true) (Φ : (Nat → Bool) → Act → World → Prop) (h0 : Φ (fun _ => false) a w.drew)
    (step : ∀ i o L a w, ops[i]? = some o → L i = false → Clo ops L → (∀ e ∈ o.after, Region.binds .any e = true → L e.on = true) → Φ L a w → wpOpIn F m P ops Q i (Φ (fun j => if j = i then true else L j)) a w)
    (fin : ∀ L a w, (∀ i, i < ops.size → L i = true) → Φ L a w → Q .normal a w) : (Code.region id ops true).wpIn F m P Q a w := by
  refine wpIn_region_any hm (wpAnyIn_inv hl (fun L a w => Clo ops L ∧ Φ L a w) ?_ (fun L a w hall h => fin L a w hall h.2) _ _ _ _ (by simp) (by simp) ?_)
  · intro i o L a w ho hi hall h
    refine wpOpIn_mono (fun a' w' h' => ⟨?_, h'⟩) (step i o L a w ho hi h.1 hall h.2)
    intro j o' ho' hj e he hb
    by_cases hji : j = i
    · subst hji
      rw [ho] at ho'
      injection ho' with e'
      subst e'
      simp [hall e he hb]
    · have := h.1 j o' ho' (by simpa [hji] using hj) e he hb
      simp [this]
  · have e : (fun j => (Array.replicate ops.size false).getD j false) = fun _ => false := by
      funext j
      by_cases h : j < ops.size <;> simp [h]
    rw [e]
    exact ⟨fun _ _ _ h => (by cases h), h0⟩

set_option maxRecDepth 100000 in
theorem At.runIn {i : Nat} {dst : Option Tmp} {op : Op} {t : TypeId} {js : List Nat} (h : At ops i dst op t js) {K : Act → World → Prop} {a : Act} {w : World}
    (hr : ∀ pos after, ({ dst := dst, op := op, type := t, pos := pos, after := after, guard := none } : Oper).wpIn F m P a w K Q) : wpOpIn F m P ops Q i K a w := by
  obtain ⟨o, ho, h1, h2, h3, h4, _⟩ := h
  unfold wpOpIn
  rw [ho]
  dsimp only
  rw [if_pos (by unfold Region.wanted; rw [h4])]
  subst h1; subst h2; subst h3
  have := hr o.pos o.after
  rw [← h4] at this
  exact this
end

section
variable {m l : Nat} {K : Act → World → Prop} {Q : Exit → Act → World → Prop} {a : Act} {w : World} {dst : Option Tmp} {t : TypeId} {pos : String} {after : Array Edge} {x y : Operand}

set_option maxRecDepth 100000 in
/-- An operation inside a round, from what it does as it stands. -/
theorem opIn_of (o : Oper) (hd : ∀ c, o.op ≠ .defer c) {v : Value} {w' : World} (hr : (execOp a.eval o).run Tryz.prog w = .ok (.value v) w') (h : K (a.put o.dst v) w') : o.wpIn (Fence.wide.inRound l) m Tryz.prog a w K Q := by
  refine ⟨fun _ _ => trivial, ?_⟩
  rw [Fence.inRound_round, Oper.semAt_some l _ _ hd, hr]
  exact h

set_option maxRecDepth 100000 in
theorem opI_nil {p : Addr} (hx : a.eval x = .pointer (some p)) (h : K (a.put dst (.pointer (some p))) w) :
    ({ dst := dst, op := .nilCheck x, type := t, pos := pos, after := after, guard := none } : Oper).wpIn (Fence.wide.inRound l) m Tryz.prog a w K Q := by
  refine opIn_of _ (by intro c; simp) ?_ h
  unfold execOp
  simp only [hx]
  go_simp
set_option maxRecDepth 100000 in
theorem opI_move {v : Value} (hx : a.eval x = v) (h : K (a.put dst v) w) :
    ({ dst := dst, op := .move x, type := t, pos := pos, after := after, guard := none } : Oper).wpIn (Fence.wide.inRound l) m Tryz.prog a w K Q := by
  refine opIn_of _ (by intro c; simp) ?_ h
  unfold execOp
  simp only [hx]
  go_simp
end

end Go.Proofs.YtdaimejlcfhfiaaGreatDoor

/-
  A range over a function whose elements lie in memory: each comes with what holds of it in the world in which it is handed over. Conditions: those that each theorem names.
-/
namespace Go.Proofs.YtdaimejlcfhfiaaGreatDoor
open Go.RowKit Go.Shelf

section
variable {α : Type} {P : Program} {n : Nat}

/-- What such an iterator keeps: whatever the rounds tell of themselves (J), as long as each element is taken when Ok holds of it. -/
def SeqMem (n : Nat) (P : Program) (g : Nat) (lb : Array Value) (encs : α → Array Value) (Ok : List α → α → World → Prop) (Kp : World → World → Prop) (S : List α → Prop) (w : World) : Prop :=
  ∀ (l : Nat) (J : List α → World → Prop) (Jx : World → Prop) (W : World), Below w.heap.size w W → AbidesFrom W.heap.size J →
    (∀ pre x V, J pre V → Ok pre x V → YieldAt Fence.wide (n - 1) P l (encs x) V fun e V' => (e = .returned (.bool true) ∧ J (pre ++ [x]) V' ∧ Kp V V') ∨ (e = .returned (.bool false) ∧ Jx V')) →
    J [] W → CallsIn Fence.wide n P g (#[.func (.yield l) #[] #[]] ++ lb) W fun e W' => (∃ v, e = .returned v) ∧ ((∃ xs, S xs ∧ J xs W') ∨ Jx W')

/-- The loop's record, as it lies in its block. -/
def Rec (W : World) (D fn : Nat) (a : Act) (ps : Array Tmp) (assign body : Code) (st : LoopState) (pe : Option Code) : Prop :=
  W.heap[D + 1]? = some (.loop { state := st, pending := pe, fn := fn, tmps := a.tmps, params := ps, assign := assign, body := body, defers := D }) ∧ W.heap[D]? = some (.deferred (some []))

section
variable {W V : World} {D fn : Nat} {a : Act} {ps : Array Tmp} {assign body : Code} {st : LoopState} {pe : Option Code}
set_option maxRecDepth 100000 in
theorem Rec.lt (h : Rec W D fn a ps assign body st pe) : D + 1 < W.heap.size := (Array.getElem?_eq_some_iff.1 h.1).1
set_option maxRecDepth 100000 in
theorem Rec.turn {row : Option Nat} (h : Rec W D fn a ps assign body st pe) (hg : W.grownBy V row) (hr : ∀ r, row = some r → ∃ o : Obj, W.heap[r]? = some o ∧ o.isWalk = true) : Rec V D fn a ps assign body st pe :=
  ⟨(grownBy_keeps hg hr h.1 rfl).trans h.1, (grownBy_keeps hg hr h.2 rfl).trans h.2⟩
set_option maxRecDepth 100000 in
theorem Rec.kept {B : Nat} (h : Rec W D fn a ps assign body st pe) (hB : B ≤ D) (hk : KeepsFrom B W V) : Rec V D fn a ps assign body st pe :=
  ⟨hk.same _ _ (by omega) h.1 rfl, hk.same _ _ hB h.2 rfl⟩
set_option maxRecDepth 100000 in
theorem Rec.put (h : Rec W D fn a ps assign body st pe) (st' : LoopState) (pe' : Option Code) :
    Rec (W.putObj (D + 1) (.loop { state := st', pending := pe', fn := fn, tmps := a.tmps, params := ps, assign := assign, body := body, defers := D })) D fn a ps assign body st' pe' :=
  ⟨World.putObj_heap_same h.lt, (World.putObj_heap_other (by omega)).trans h.2⟩
set_option maxRecDepth 100000 in
theorem Rec.begins (h : Rec W D fn a ps assign body .ready none) :
    (Instr.beginRound (D + 1)).run P W = .ok () (W.putObj (D + 1) (.loop { state := .busy, pending := none, fn := fn, tmps := a.tmps, params := ps, assign := assign, body := body, defers := D })) := run_beginRound h.1 rfl
set_option maxRecDepth 100000 in
/-- A round's end: behind the body, the record says how it was left. -/
theorem Rec.ends (h : Rec W D fn a ps assign body .busy none) (jump : Option Code) :
    (Instr.endRound (D + 1) jump).run P W = .ok (.bool jump.isNone) (W.putObj (D + 1) (.loop { state := if jump.isNone then .ready else .done, pending := jump, fn := fn, tmps := a.tmps, params := ps, assign := assign, body := body, defers := D })) := run_endRound jump h.1
set_option maxRecDepth 100000 in
theorem Rec.over (h : Rec W D fn a ps assign body st pe) (hb : st ≠ .busy) :
    (Instr.endLoop (D + 1)).run P W = .ok pe (W.putObj (D + 1) (.loop { state := .exhausted, pending := pe, fn := fn, tmps := a.tmps, params := ps, assign := assign, body := body, defers := D })) := run_endLoop h.1 hb
set_option maxRecDepth 100000 in
theorem Rec.yields (h : Rec W D fn a ps assign body st pe) {args : Array Value} (hs : args.size = ps.size) :
    (Instr.yield (D + 1) args).run P W = .ok (.round (D + 1) fn ((ps.zip args).foldl (fun t (p, v) => t.setIfInBounds p v) a.tmps) assign body) W := run_yield h.1 hs
end

set_option maxRecDepth 100000 in
theorem wpIn_range_mem {g : Operand} {ps : Array Tmp} {assign body : Code} {Q : Exit → Act → World → Prop} {a : Act} {w : World}
    (h1 : 1 ≤ n) {gf : Nat} {lb : Array Value} (hg : a.eval g = .func (.func gf) #[] lb) (eg : ∀ args w, (callFunc gf args).run P w = .ok (.enter gf args) w)
    {encs : α → Array Value} {Ok : List α → α → World → Prop} {Kp : World → World → Prop} {S : List α → Prop} {w0 : World} (hseq : SeqMem (n - 1) P gf lb encs Ok Kp S w0)
    (hKt : ∀ {A B C : World}, Kp A B → Kp B C → Kp A C) (hKb : ∀ (W : World) (l : Nat) (o o' : Obj), w.heap.size ≤ l → W.heap[l]? = some o → o.isCells = false → o.isWalk = false → Kp W (W.putObj l o')) (hb0 : Below w0.heap.size w0 w) (hps : ∀ x, (encs x).size = ps.size)
    (I : List α → World → Prop) (Ix : Code → World → Prop) (hI : OwnFrom w.heap.size I) (hIx : OwnFrom w.heap.size Ix) (h0 : I [] w)
    (Ax : List α → α → Act → World → Prop) (hAx : ∀ a', OwnFrom w.heap.size (fun (p : List α × α) W => Ax p.1 p.2 a' W))
    (hassign : ∀ (l : Nat) (pre : List α) (x : α) (W : World) (K : Act → World → Prop), I pre W → Ok pre x W → (∀ a' W', KeepsFrom w.heap.size W W' → Kp W W' → I pre W' → Ax pre x a' W' → K a' W') →
      assign.wpIn (Fence.wide.inRound l) (n - 1 - 1) P (Exit.then K (fun _ _ _ => False)) { tmps := (ps.zip (encs x)).foldl (fun t (p, v) => t.setIfInBounds p v) a.tmps, defers := [] } W)
    (hbody : ∀ (l : Nat) (pre : List α) (x : α) (a' : Act) (W : World), w.heap.size ≤ l → I pre W → Ax pre x a' W →
      body.wpIn (Fence.wide.inRound l) (n - 1 - 1) P (ownPostG w.heap.size Kp I (fun c _ => Ix c) (pre ++ [x]) W) a' W)
    (hdone : ∀ (D : Nat) (xs : List α) (W : World), w.heap.size ≤ D → S xs → I xs W → W.heap[D]? = some (.deferred (some [])) → Q .normal { a with defers := { target := .collected D, args := #[] } :: a.defers } W)
    (hstop : ∀ (D : Nat) (c : Code) (W : World), w.heap.size ≤ D → Ix c W → W.heap[D]? = some (.deferred (some [])) → c.wpIn Fence.wide n P Q { a with defers := { target := .collected D, args := #[] } :: a.defers } W) :
    (Code.rangeFunc g ps assign body).wpIn Fence.wide n P Q a w := by
  refine wpIn_rangeFunc fun fn _ => ?_
  have hsz2 : ((w.alloc (.deferred (some []))).alloc (.loop { state := .ready, pending := none, fn := fn, tmps := a.tmps, params := ps, assign := assign, body := body, defers := w.heap.size })).heap.size = w.heap.size + 2 := by simp
  have hR0 : Rec ((w.alloc (.deferred (some []))).alloc (.loop { state := .ready, pending := none, fn := fn, tmps := a.tmps, params := ps, assign := assign, body := body, defers := w.heap.size })) w.heap.size fn a ps assign body .ready none := by
    constructor
    · have := World.alloc_heap_new (w.alloc (.deferred (some []))) (.loop { state := .ready, pending := none, fn := fn, tmps := a.tmps, params := ps, assign := assign, body := body, defers := w.heap.size })
      rwa [World.size_alloc] at this
    · exact (Below.heap_alloc _ _ _ (by simp)).trans (World.alloc_heap_new w _)
  have hB0 : Below w0.heap.size w0 ((w.alloc (.deferred (some []))).alloc (.loop { state := .ready, pending := none, fn := fn, tmps := a.tmps, params := ps, assign := assign, body := body, defers := w.heap.size })) := (hb0.alloc hb0.size _).alloc (by have := hb0.size; simp; omega) _
  have hI0 := hI.alloc (Obj.loop { state := .ready, pending := none, fn := fn, tmps := a.tmps, params := ps, assign := assign, body := body, defers := w.heap.size }) (hI.alloc (.deferred (some [])) h0)
  have hent := run_enterLoop_outer (P := P) (w := w) fn a.tmps ps assign body
  revert hsz2 hR0 hB0 hI0 hent
  generalize (w.alloc (.deferred (some []))).alloc (.loop { state := .ready, pending := none, fn := fn, tmps := a.tmps, params := ps, assign := assign, body := body, defers := w.heap.size }) = W1
  intro hsz2 hR0 hB0 hI0 hent
  refine ⟨w.heap.size + 1, [{ target := .collected w.heap.size, args := #[] }], W1, { target := .fn (.func gf) lb, args := #[.func (.yield (w.heap.size + 1)) #[] #[]] }, W1, gf,
    #[.func (.yield (w.heap.size + 1)) #[] #[]] ++ lb, W1, hent, ?_, fun _ _ => trivial, ?_, fun _ => h1, ?_⟩
  · simp only [resolve, hg]
    simp [go_sem]
  · simp [invoke, go_sem, eg]
  have hnw : ∀ {A : World} {row : Option Nat}, (∀ r, row = some r → W1.heap.size ≤ r ∧ ∃ o : Obj, A.heap[r]? = some o ∧ o.isWalk = true) → (∀ r, row = some r → w.heap.size ≤ r ∧ ∃ o : Obj, A.heap[r]? = some o ∧ o.isCells = false) :=
    fun hr r e => by
      obtain ⟨hB, o, ho, hw⟩ := hr r e
      exact ⟨by omega, o, ho, Obj.not_cells_of_walk hw⟩
  refine (hseq (w.heap.size + 1) (fun pre W => I pre W ∧ Rec W w.heap.size fn a ps assign body .ready none) (fun W => ∃ c, Ix c W ∧ Rec W w.heap.size fn a ps assign body .done (some c)) W1 hB0
    (fun s A B row hs hg' hr => ⟨hI s A B row hs.1 hg' (hnw hr), hs.2.turn hg' (fun r e => (hr r e).2)⟩) ?round ⟨hI0, hR0⟩).mono ?behind
  case round =>
    rintro pre x V ⟨hi, hrec⟩ hok
    refine ⟨_, _, _, _, hrec.yields (hps x), roundIn_of_wpIn trivial (hassign _ pre x V _ hi hok ?_)⟩
    intro a' V2 hk2 hp2 hi2 hx2
    have hrec2 := hrec.kept (Nat.le_refl _) hk2
    refine ⟨_, hrec2.begins, ?_⟩
    have hrec3 := hrec2.put .busy none
    have hi3 := hI.putObj (Obj.loop { state := .busy, pending := none, fn := fn, tmps := a.tmps, params := ps, assign := assign, body := body, defers := w.heap.size }) hi2 (by omega) hrec2.1 rfl
    have hx3 := (hAx a').putObj (s := (pre, x)) (Obj.loop { state := .busy, pending := none, fn := fn, tmps := a.tmps, params := ps, assign := assign, body := body, defers := w.heap.size }) hx2 (by omega) hrec2.1 rfl
    have hp3 := hKb V2 (w.heap.size + 1) _ (Obj.loop { state := .busy, pending := none, fn := fn, tmps := a.tmps, params := ps, assign := assign, body := body, defers := w.heap.size }) (by omega) hrec2.1 rfl rfl
    refine wpIn_mono (hbody _ pre x a' _ (by omega) hi3 hx3) ?_
    have leaves : ∀ (c : Code) (V4 : World), KeepsFrom w.heap.size (V2.putObj (w.heap.size + 1) (.loop { state := .busy, pending := none, fn := fn, tmps := a.tmps, params := ps, assign := assign, body := body, defers := w.heap.size })) V4 → Ix c V4 →
        ∃ v W', (Instr.endRound (w.heap.size + 1) (some c)).run P V4 = .ok v W' ∧ ((Ending.returned v = .returned (.bool true) ∧ (I (pre ++ [x]) W' ∧ Rec W' w.heap.size fn a ps assign body .ready none) ∧ Kp V W') ∨
          (Ending.returned v = .returned (.bool false) ∧ ∃ c, Ix c W' ∧ Rec W' w.heap.size fn a ps assign body .done (some c))) := fun c V4 hk4 hx4 => by
      have hrec4 := hrec3.kept (Nat.le_refl _) hk4
      exact ⟨_, _, hrec4.ends (some c), .inr ⟨rfl, c, hIx.putObj _ hx4 (by omega) hrec4.1 rfl, hrec4.put _ _⟩⟩
    intro e a4 V4 hp
    cases e with
    | normal =>
      obtain ⟨hk4, hp4, hi4⟩ := hp
      have hrec4 := hrec3.kept (Nat.le_refl _) hk4
      exact ⟨_, _, hrec4.ends none, .inl ⟨rfl, ⟨hI.putObj _ hi4 (by omega) hrec4.1 rfl, hrec4.put _ _⟩, hKt hp2 (hKt hp3 (hKt hp4 (hKb _ _ _ _ (by omega) hrec4.1 rfl rfl)))⟩⟩
    | ret => exact leaves _ _ hp.1 hp.2
    | exit id => exact leaves _ _ hp.1 hp.2
    | goto t => exact leaves _ _ hp.1 hp.2
    | panic ch => exact hp.elim
    | outgrown => exact hp.elim
  case behind =>
    rintro e W2 ⟨⟨v, rfl⟩, h⟩
    rcases h with ⟨xs, hS, hi, hrec⟩ | ⟨c, hx, hrec⟩
    · exact ⟨none, _, hrec.over (by simp), hdone _ xs _ (Nat.le_refl _) hS (hI.putObj _ hi (by omega) hrec.1 rfl) (hrec.put _ _).2⟩
    · exact ⟨some c, _, hrec.over (by simp), hstop _ c _ (Nat.le_refl _) (hIx.putObj _ hx (by omega) hrec.1 rfl) (hrec.put _ _).2⟩
end

set_option maxRecDepth 100000 in
/-- An append whose run is known, inside a round. -/
theorem wpListIn_app {F : Fence} {m : Nat} {P : Program} {w : World} {ops : Array Oper} {rest : List Oper} {o : Oper} {a : Act} {Q : Exit → Act → World → Prop} (hg : o.guard = none) (s x : Operand) (t : TypeId)
    (ho : o.op = .call { callee := .builtin .append, args := #[s, x], argTypes := #[t, t] }) (vs vx v' : Value) (w' : World) (hs : a.eval s = vs) (hx : a.eval x = vx)
    (hr : (Builtin.append_ #[t, t] o.type #[vs, vx]).run P w = .ok v' w') (h : wpListIn F m P ops Q rest (a.put o.dst v') w') : wpListIn F m P ops Q (o :: rest) a w := by
  refine wpListIn_plain hg fun K hK => ?_
  unfold Oper.wpIn
  refine ⟨by simp [Oper.about, ho, resolve, Target.leads, Sem.run_pure], ?_⟩
  rw [Oper.semAt_plain F _ _ (by rw [ho]; intro c hc; cases hc)]
  simp only [execOp, ho, resolve, invoke, builtin, Sem.run_bind, Sem.run_pure, Result.andThen_ok, List.map_toArray, List.map_cons, List.map_nil, hs, hx, hr]
  exact hK _ _ h

end Go.Proofs.YtdaimejlcfhfiaaGreatDoor

/-
  A scope with two labels: the run comes back at one, and jumps ahead to the other. Conditions: those that each theorem names.
-/
namespace Go.Proofs.YtdaimejlcfhfiaaGreatDoor
open Go.RowKit Go.Shelf

/-- As Q; by a goto to l0: J0; to l1: J1; by any other: no way out. -/
def jump2 (l0 : Nat) (J0 : Act → World → Prop) (l1 : Nat) (J1 : Act → World → Prop) (Q : Exit → Act → World → Prop) : Exit → Act → World → Prop
  | .goto l, a, w => (l = l0 ∧ J0 a w) ∨ (l = l1 ∧ J1 a w)
  | e, a, w => Q e a w

set_option maxRecDepth 100000 in
/-- A scope that the run leaves by a jump ahead to one label, and in which it comes back at another one: the first pass, each pass behind the label, and the tail. -/
theorem wp_scope_two {P : Program} {a : Act} {w : World} {Q : Exit → Act → World → Prop} {c rest r0 : Code} (l0 l1 : Nat) (J0 J1 : Act → World → Prop) (μ : Act → World → Nat)
    (hf : findLabel c l0 = some r0) (hf1 : findLabel c l1 = some (Code.skip.seq rest))
    (first : c.wp P (jump2 l0 J0 l1 J1 Q) a w)
    (pass : ∀ a w, J1 a w → rest.wp P (jump2 l0 J0 l1 (fun a' w' => J1 a' w' ∧ μ a' w' < μ a w) Q) a w)
    (tail : ∀ a w, J0 a w → r0.wp P (Exit.noGoto Q) a w) : (Code.scope c).wp P Q a w := by
  intro b k cs
  have hg0 : gotoIn l0 (.inScope c :: k) = some (.code r0 :: .inScope c :: k) := by simp [gotoIn, hf]
  have hg1 : gotoIn l1 (.inScope c :: k) = some (.code (Code.skip.seq rest) :: .inScope c :: k) := by simp [gotoIn, hf1]
  have end0 : ∀ a w, J0 a w → ∃ e a' w', Q e a' w' ∧ Arrives P (lone (b.at a (.code r0 :: .inScope c :: k)) cs w) b k cs e a' w' := by
    intro a w hJ
    obtain ⟨e, a₁, w₁, hq, harr⟩ := tail a w hJ b (.inScope c :: k) cs
    cases e with
    | normal => exact ⟨.normal, a₁, w₁, hq, Steps.trans harr (.one step_inScope)⟩
    | exit id => exact ⟨.exit id, a₁, w₁, hq, fun k' hk => harr k' (by simp [exitTo, hk])⟩
    | goto l' => exact hq.elim
    | ret => exact ⟨_, a₁, w₁, hq, harr⟩
    | panic ch => exact ⟨_, a₁, w₁, hq, harr⟩
    | outgrown => exact ⟨_, a₁, w₁, hq, harr⟩
  have key : ∀ n a w, μ a w = n → J1 a w → ∃ e a' w', Q e a' w' ∧ Arrives P (lone (b.at a (.code (Code.skip.seq rest) :: .inScope c :: k)) cs w) b k cs e a' w' := by
    intro n
    induction n using Nat.strongRecOn with
    | _ n ih =>
      intro a w hn hJ
      obtain ⟨e, a₁, w₁, hq, harr⟩ := (wp_seq (wp_skip (pass a w hJ))) b (.inScope c :: k) cs
      cases e with
      | normal => exact ⟨.normal, a₁, w₁, hq, Steps.trans harr (.one step_inScope)⟩
      | exit id => exact ⟨.exit id, a₁, w₁, hq, fun k' hk => harr k' (by simp [exitTo, hk])⟩
      | goto l' =>
        rcases hq with ⟨rfl, hJ'⟩ | ⟨rfl, hJ', hlt⟩
        · obtain ⟨e₂, a₂, w₂, hq₂, harr₂⟩ := end0 a₁ w₁ hJ'
          exact ⟨e₂, a₂, w₂, hq₂, .of_steps (harr _ hg0) harr₂⟩
        · obtain ⟨e₂, a₂, w₂, hq₂, harr₂⟩ := ih _ (by omega) a₁ w₁ rfl hJ'
          exact ⟨e₂, a₂, w₂, hq₂, .of_steps (harr _ hg1) harr₂⟩
      | ret => exact ⟨_, a₁, w₁, hq, harr⟩
      | panic ch => exact ⟨_, a₁, w₁, hq, harr⟩
      | outgrown => exact ⟨_, a₁, w₁, hq, harr⟩
  obtain ⟨e, a₁, w₁, hq, harr⟩ := first b (.inScope c :: k) cs
  cases e with
  | normal => exact ⟨.normal, a₁, w₁, hq, .head step_scope (Steps.trans harr (.one step_inScope))⟩
  | exit id => exact ⟨.exit id, a₁, w₁, hq, fun k' hk => .head step_scope (harr k' (by simp [exitTo, hk]))⟩
  | goto l' =>
    rcases hq with ⟨rfl, hJ'⟩ | ⟨rfl, hJ'⟩
    · obtain ⟨e₂, a₂, w₂, hq₂, harr₂⟩ := end0 a₁ w₁ hJ'
      exact ⟨e₂, a₂, w₂, hq₂, .of_steps (.head step_scope (harr _ hg0)) harr₂⟩
    · obtain ⟨e₂, a₂, w₂, hq₂, harr₂⟩ := key _ a₁ w₁ rfl hJ'
      exact ⟨e₂, a₂, w₂, hq₂, .of_steps (.head step_scope (harr _ hg1)) harr₂⟩
  | ret => exact ⟨_, a₁, w₁, hq, .of_steps (.one step_scope) harr⟩
  | panic ch => exact ⟨_, a₁, w₁, hq, .of_steps (.one step_scope) harr⟩
  | outgrown => exact ⟨_, a₁, w₁, hq, .of_steps (.one step_scope) harr⟩

set_option maxRecDepth 100000 in
theorem jump2_of {P : Program} {Q : Exit → Act → World → Prop} {rest : Code} {l0 l1 : Nat} {J0 J1 : Act → World → Prop} {μ : Act → World → Nat} {a : Act} {w : World}
    (h : rest.wp P (jump2 l0 J0 l1 (fun a' w' => J1 a' w' ∧ μ a' w' < μ a w) Q) a w) : rest.wp P (jump2 l0 J0 l1 J1 Q) a w := by
  refine wp_mono h ?_
  rintro (_ | _ | l | _ | _ | _) a2 w2 h
  all_goals first | exact h | exact h.imp id (fun h => ⟨h.1, h.2.1⟩)
set_option maxRecDepth 100000 in
/-- Code ahead of a label at which the run comes back, which it leaves by a jump ahead to another one. -/
theorem wp_scope_back_fwd {P : Program} {a : Act} {w : World} {Q : Exit → Act → World → Prop} {pre rest r0 : Code} (l0 l1 : Nat) (J0 J1 : Act → World → Prop) (μ : Act → World → Nat)
    (hn : findLabel pre l1 = none) (hf : findLabel (pre.seq ((Code.label l1).seq rest)) l0 = some r0)
    (h0 : pre.wp P (fun e a w => e = .normal ∧ J1 a w) a w)
    (pass : ∀ a w, J1 a w → rest.wp P (jump2 l0 J0 l1 (fun a' w' => J1 a' w' ∧ μ a' w' < μ a w) Q) a w)
    (tail : ∀ a w, J0 a w → r0.wp P (Exit.noGoto Q) a w) : (Code.scope (pre.seq ((Code.label l1).seq rest))).wp P Q a w := by
  refine wp_scope_two l0 l1 J0 J1 μ hf (by simp [findLabel, hn]) (wp_seq (wp_mono h0 ?_)) pass tail
  rintro e a1 w1 ⟨rfl, h1⟩
  exact wp_seq (wp_label (jump2_of (pass a1 w1 h1)))
set_option maxRecDepth 100000 in
/-- The same, with four pieces of code ahead of the label. -/
theorem wp_scope_back_fwd4 {P : Program} {a : Act} {w : World} {Q : Exit → Act → World → Prop} {p1 p2 p3 p4 rest r0 : Code} (l0 l1 : Nat) (J0 J1 : Act → World → Prop) (μ : Act → World → Nat)
    (hn1 : findLabel p1 l1 = none) (hn2 : findLabel p2 l1 = none) (hn3 : findLabel p3 l1 = none) (hn4 : findLabel p4 l1 = none) (hf : findLabel (p1.seq (p2.seq (p3.seq (p4.seq ((Code.label l1).seq rest))))) l0 = some r0)
    (h0 : p1.wp P (fun e a w => e = .normal ∧ p2.wp P (fun e a w => e = .normal ∧ p3.wp P (fun e a w => e = .normal ∧ p4.wp P (fun e a w => e = .normal ∧ J1 a w) a w) a w) a w) a w)
    (pass : ∀ a w, J1 a w → rest.wp P (jump2 l0 J0 l1 (fun a' w' => J1 a' w' ∧ μ a' w' < μ a w) Q) a w)
    (tail : ∀ a w, J0 a w → r0.wp P (Exit.noGoto Q) a w) : (Code.scope (p1.seq (p2.seq (p3.seq (p4.seq ((Code.label l1).seq rest)))))).wp P Q a w := by
  refine wp_scope_two l0 l1 J0 J1 μ hf (by simp [findLabel, hn1, hn2, hn3, hn4]) (wp_seq (wp_mono h0 ?_)) pass tail
  rintro e a1 w1 ⟨rfl, h1⟩
  refine wp_seq (wp_mono h1 ?_)
  rintro e a2 w2 ⟨rfl, h2⟩
  refine wp_seq (wp_mono h2 ?_)
  rintro e a3 w3 ⟨rfl, h3⟩
  refine wp_seq (wp_mono h3 ?_)
  rintro e a4 w4 ⟨rfl, h4⟩
  exact wp_seq (wp_label (jump2_of (pass a4 w4 h4)))

end Go.Proofs.YtdaimejlcfhfiaaGreatDoor
