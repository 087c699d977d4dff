/-
  A range over a function whose elements lie in memory: each comes with what holds of it in the world in which it is handed over. Conditions: those that each theorem names.
-/
import Derived.Test.YtgjipbhhdiacmaaDoorRegionIn
import Derived.RangeFuncNested
namespace Go.Proofs.YtgjipbhhdiacmaaDoor
open Go.RowKit Go.Shelf

section
variable {α : Type} {P : Program} {n : Nat}

/-- What such an iterator keeps: whatever the rounds tell of themselves (J), as long as each element is taken when Ok holds of it. -/
def SeqMem (n : Nat) (P : Program) (g : Nat) (lb : Array Value) (encs : α → Array Value) (Ok : List α → α → World → Prop) (Kp : World → World → Prop) (S : List α → Prop) (w : World) : Prop :=
  ∀ (l : Nat) (J : List α → World → Prop) (Jx : World → Prop) (W : World), Below w.heap.size w W → AbidesFrom W.heap.size J →
    (∀ pre x V, J pre V → Ok pre x V → YieldAt Fence.wide (n - 1) P l (encs x) V fun e V' => (e = .returned (.bool true) ∧ J (pre ++ [x]) V' ∧ Kp V V') ∨ (e = .returned (.bool false) ∧ Jx V')) →
    J [] W → CallsIn Fence.wide n P g (#[.func (.yield l) #[] #[]] ++ lb) W fun e W' => (∃ v, e = .returned v) ∧ ((∃ xs, S xs ∧ J xs W') ∨ Jx W')

/-- The loop's record, as it lies in its block. -/
def Rec (W : World) (D fn : Nat) (a : Act) (ps : Array Tmp) (assign body : Code) (st : LoopState) (pe : Option Code) : Prop :=
  W.heap[D + 1]? = some (.loop { state := st, pending := pe, fn := fn, tmps := a.tmps, params := ps, assign := assign, body := body, defers := D }) ∧ W.heap[D]? = some (.deferred (some []))

section
variable {W V : World} {D fn : Nat} {a : Act} {ps : Array Tmp} {assign body : Code} {st : LoopState} {pe : Option Code}
set_option maxRecDepth 100000 in
theorem Rec.lt (h : Rec W D fn a ps assign body st pe) : D + 1 < W.heap.size := (Array.getElem?_eq_some_iff.1 h.1).1
set_option maxRecDepth 100000 in
theorem Rec.turn {row : Option Nat} (h : Rec W D fn a ps assign body st pe) (hg : W.grownBy V row) (hr : ∀ r, row = some r → ∃ o : Obj, W.heap[r]? = some o ∧ o.isWalk = true) : Rec V D fn a ps assign body st pe :=
  ⟨(grownBy_keeps hg hr h.1 rfl).trans h.1, (grownBy_keeps hg hr h.2 rfl).trans h.2⟩
set_option maxRecDepth 100000 in
theorem Rec.kept {B : Nat} (h : Rec W D fn a ps assign body st pe) (hB : B ≤ D) (hk : KeepsFrom B W V) : Rec V D fn a ps assign body st pe :=
  ⟨hk.same _ _ (by omega) h.1 rfl, hk.same _ _ hB h.2 rfl⟩
set_option maxRecDepth 100000 in
theorem Rec.put (h : Rec W D fn a ps assign body st pe) (st' : LoopState) (pe' : Option Code) :
    Rec (W.putObj (D + 1) (.loop { state := st', pending := pe', fn := fn, tmps := a.tmps, params := ps, assign := assign, body := body, defers := D })) D fn a ps assign body st' pe' :=
  ⟨World.putObj_heap_same h.lt, (World.putObj_heap_other (by omega)).trans h.2⟩
set_option maxRecDepth 100000 in
theorem Rec.begins (h : Rec W D fn a ps assign body .ready none) :
    (Instr.beginRound (D + 1)).run P W = .ok () (W.putObj (D + 1) (.loop { state := .busy, pending := none, fn := fn, tmps := a.tmps, params := ps, assign := assign, body := body, defers := D })) := run_beginRound h.1 rfl
set_option maxRecDepth 100000 in
/-- A round's end: behind the body, the record says how it was left. -/
theorem Rec.ends (h : Rec W D fn a ps assign body .busy none) (jump : Option Code) :
    (Instr.endRound (D + 1) jump).run P W = .ok (.bool jump.isNone) (W.putObj (D + 1) (.loop { state := if jump.isNone then .ready else .done, pending := jump, fn := fn, tmps := a.tmps, params := ps, assign := assign, body := body, defers := D })) := run_endRound jump h.1
set_option maxRecDepth 100000 in
theorem Rec.over (h : Rec W D fn a ps assign body st pe) (hb : st ≠ .busy) :
    (Instr.endLoop (D + 1)).run P W = .ok pe (W.putObj (D + 1) (.loop { state := .exhausted, pending := pe, fn := fn, tmps := a.tmps, params := ps, assign := assign, body := body, defers := D })) := run_endLoop h.1 hb
set_option maxRecDepth 100000 in
theorem Rec.yields (h : Rec W D fn a ps assign body st pe) {args : Array Value} (hs : args.size = ps.size) :
    (Instr.yield (D + 1) args).run P W = .ok (.round (D + 1) fn ((ps.zip args).foldl (fun t (p, v) => t.setIfInBounds p v) a.tmps) assign body) W := run_yield h.1 hs
end

set_option maxRecDepth 100000 in
theorem wpIn_range_mem {g : Operand} {ps : Array Tmp} {assign body : Code} {Q : Exit → Act → World → Prop} {a : Act} {w : World}
    (h1 : 1 ≤ n) {gf : Nat} {lb : Array Value} (hg : a.eval g = .func (.func gf) #[] lb) (eg : ∀ args w, (callFunc gf args).run P w = .ok (.enter gf args) w)
    {encs : α → Array Value} {Ok : List α → α → World → Prop} {Kp : World → World → Prop} {S : List α → Prop} {w0 : World} (hseq : SeqMem (n - 1) P gf lb encs Ok Kp S w0)
    (hKt : ∀ {A B C : World}, Kp A B → Kp B C → Kp A C) (hKb : ∀ (W : World) (l : Nat) (o o' : Obj), w.heap.size ≤ l → W.heap[l]? = some o → o.isCells = false → o.isWalk = false → Kp W (W.putObj l o')) (hb0 : Below w0.heap.size w0 w) (hps : ∀ x, (encs x).size = ps.size)
    (I : List α → World → Prop) (Ix : Code → World → Prop) (hI : OwnFrom w.heap.size I) (hIx : OwnFrom w.heap.size Ix) (h0 : I [] w)
    (Ax : List α → α → Act → World → Prop) (hAx : ∀ a', OwnFrom w.heap.size (fun (p : List α × α) W => Ax p.1 p.2 a' W))
    (hassign : ∀ (l : Nat) (pre : List α) (x : α) (W : World) (K : Act → World → Prop), I pre W → Ok pre x W → (∀ a' W', KeepsFrom w.heap.size W W' → Kp W W' → I pre W' → Ax pre x a' W' → K a' W') →
      assign.wpIn (Fence.wide.inRound l) (n - 1 - 1) P (Exit.then K (fun _ _ _ => False)) { tmps := (ps.zip (encs x)).foldl (fun t (p, v) => t.setIfInBounds p v) a.tmps, defers := [] } W)
    (hbody : ∀ (l : Nat) (pre : List α) (x : α) (a' : Act) (W : World), w.heap.size ≤ l → I pre W → Ax pre x a' W →
      body.wpIn (Fence.wide.inRound l) (n - 1 - 1) P (ownPostG w.heap.size Kp I (fun c _ => Ix c) (pre ++ [x]) W) a' W)
    (hdone : ∀ (D : Nat) (xs : List α) (W : World), w.heap.size ≤ D → S xs → I xs W → W.heap[D]? = some (.deferred (some [])) → Q .normal { a with defers := { target := .collected D, args := #[] } :: a.defers } W)
    (hstop : ∀ (D : Nat) (c : Code) (W : World), w.heap.size ≤ D → Ix c W → W.heap[D]? = some (.deferred (some [])) → c.wpIn Fence.wide n P Q { a with defers := { target := .collected D, args := #[] } :: a.defers } W) :
    (Code.rangeFunc g ps assign body).wpIn Fence.wide n P Q a w := by
  refine wpIn_rangeFunc fun fn _ => ?_
  have hsz2 : ((w.alloc (.deferred (some []))).alloc (.loop { state := .ready, pending := none, fn := fn, tmps := a.tmps, params := ps, assign := assign, body := body, defers := w.heap.size })).heap.size = w.heap.size + 2 := by simp
  have hR0 : Rec ((w.alloc (.deferred (some []))).alloc (.loop { state := .ready, pending := none, fn := fn, tmps := a.tmps, params := ps, assign := assign, body := body, defers := w.heap.size })) w.heap.size fn a ps assign body .ready none := by
    constructor
    · have := World.alloc_heap_new (w.alloc (.deferred (some []))) (.loop { state := .ready, pending := none, fn := fn, tmps := a.tmps, params := ps, assign := assign, body := body, defers := w.heap.size })
      rwa [World.size_alloc] at this
    · exact (Below.heap_alloc _ _ _ (by simp)).trans (World.alloc_heap_new w _)
  have hB0 : Below w0.heap.size w0 ((w.alloc (.deferred (some []))).alloc (.loop { state := .ready, pending := none, fn := fn, tmps := a.tmps, params := ps, assign := assign, body := body, defers := w.heap.size })) := (hb0.alloc hb0.size _).alloc (by have := hb0.size; simp; omega) _
  have hI0 := hI.alloc (Obj.loop { state := .ready, pending := none, fn := fn, tmps := a.tmps, params := ps, assign := assign, body := body, defers := w.heap.size }) (hI.alloc (.deferred (some [])) h0)
  have hent := run_enterLoop_outer (P := P) (w := w) fn a.tmps ps assign body
  revert hsz2 hR0 hB0 hI0 hent
  generalize (w.alloc (.deferred (some []))).alloc (.loop { state := .ready, pending := none, fn := fn, tmps := a.tmps, params := ps, assign := assign, body := body, defers := w.heap.size }) = W1
  intro hsz2 hR0 hB0 hI0 hent
  refine ⟨w.heap.size + 1, [{ target := .collected w.heap.size, args := #[] }], W1, { target := .fn (.func gf) lb, args := #[.func (.yield (w.heap.size + 1)) #[] #[]] }, W1, gf,
    #[.func (.yield (w.heap.size + 1)) #[] #[]] ++ lb, W1, hent, ?_, fun _ _ => trivial, ?_, fun _ => h1, ?_⟩
  · simp only [resolve, hg]
    simp [go_sem]
  · simp [invoke, go_sem, eg]
  have hnw : ∀ {A : World} {row : Option Nat}, (∀ r, row = some r → W1.heap.size ≤ r ∧ ∃ o : Obj, A.heap[r]? = some o ∧ o.isWalk = true) → (∀ r, row = some r → w.heap.size ≤ r ∧ ∃ o : Obj, A.heap[r]? = some o ∧ o.isCells = false) :=
    fun hr r e => by
      obtain ⟨hB, o, ho, hw⟩ := hr r e
      exact ⟨by omega, o, ho, Obj.not_cells_of_walk hw⟩
  refine (hseq (w.heap.size + 1) (fun pre W => I pre W ∧ Rec W w.heap.size fn a ps assign body .ready none) (fun W => ∃ c, Ix c W ∧ Rec W w.heap.size fn a ps assign body .done (some c)) W1 hB0
    (fun s A B row hs hg' hr => ⟨hI s A B row hs.1 hg' (hnw hr), hs.2.turn hg' (fun r e => (hr r e).2)⟩) ?round ⟨hI0, hR0⟩).mono ?behind
  case round =>
    rintro pre x V ⟨hi, hrec⟩ hok
    refine ⟨_, _, _, _, hrec.yields (hps x), roundIn_of_wpIn trivial (hassign _ pre x V _ hi hok ?_)⟩
    intro a' V2 hk2 hp2 hi2 hx2
    have hrec2 := hrec.kept (Nat.le_refl _) hk2
    refine ⟨_, hrec2.begins, ?_⟩
    have hrec3 := hrec2.put .busy none
    have hi3 := hI.putObj (Obj.loop { state := .busy, pending := none, fn := fn, tmps := a.tmps, params := ps, assign := assign, body := body, defers := w.heap.size }) hi2 (by omega) hrec2.1 rfl
    have hx3 := (hAx a').putObj (s := (pre, x)) (Obj.loop { state := .busy, pending := none, fn := fn, tmps := a.tmps, params := ps, assign := assign, body := body, defers := w.heap.size }) hx2 (by omega) hrec2.1 rfl
    have hp3 := hKb V2 (w.heap.size + 1) _ (Obj.loop { state := .busy, pending := none, fn := fn, tmps := a.tmps, params := ps, assign := assign, body := body, defers := w.heap.size }) (by omega) hrec2.1 rfl rfl
    refine wpIn_mono (hbody _ pre x a' _ (by omega) hi3 hx3) ?_
    have leaves : ∀ (c : Code) (V4 : World), KeepsFrom w.heap.size (V2.putObj (w.heap.size + 1) (.loop { state := .busy, pending := none, fn := fn, tmps := a.tmps, params := ps, assign := assign, body := body, defers := w.heap.size })) V4 → Ix c V4 →
        ∃ v W', (Instr.endRound (w.heap.size + 1) (some c)).run P V4 = .ok v W' ∧ ((Ending.returned v = .returned (.bool true) ∧ (I (pre ++ [x]) W' ∧ Rec W' w.heap.size fn a ps assign body .ready none) ∧ Kp V W') ∨
          (Ending.returned v = .returned (.bool false) ∧ ∃ c, Ix c W' ∧ Rec W' w.heap.size fn a ps assign body .done (some c))) := fun c V4 hk4 hx4 => by
      have hrec4 := hrec3.kept (Nat.le_refl _) hk4
      exact ⟨_, _, hrec4.ends (some c), .inr ⟨rfl, c, hIx.putObj _ hx4 (by omega) hrec4.1 rfl, hrec4.put _ _⟩⟩
    intro e a4 V4 hp
    cases e with
    | normal =>
      obtain ⟨hk4, hp4, hi4⟩ := hp
      have hrec4 := hrec3.kept (Nat.le_refl _) hk4
      exact ⟨_, _, hrec4.ends none, .inl ⟨rfl, ⟨hI.putObj _ hi4 (by omega) hrec4.1 rfl, hrec4.put _ _⟩, hKt hp2 (hKt hp3 (hKt hp4 (hKb _ _ _ _ (by omega) hrec4.1 rfl rfl)))⟩⟩
    | ret => exact leaves _ _ hp.1 hp.2
    | exit id => exact leaves _ _ hp.1 hp.2
    | goto t => exact leaves _ _ hp.1 hp.2
    | panic ch => exact hp.elim
    | outgrown => exact hp.elim
  case behind =>
    rintro e W2 ⟨⟨v, rfl⟩, h⟩
    rcases h with ⟨xs, hS, hi, hrec⟩ | ⟨c, hx, hrec⟩
    · exact ⟨none, _, hrec.over (by simp), hdone _ xs _ (Nat.le_refl _) hS (hI.putObj _ hi (by omega) hrec.1 rfl) (hrec.put _ _).2⟩
    · exact ⟨some c, _, hrec.over (by simp), hstop _ c _ (Nat.le_refl _) (hIx.putObj _ hx (by omega) hrec.1 rfl) (hrec.put _ _).2⟩
end

set_option maxRecDepth 100000 in
/-- An append whose run is known, inside a round. -/
theorem wpListIn_app {F : Fence} {m : Nat} {P : Program} {w : World} {ops : Array Oper} {rest : List Oper} {o : Oper} {a : Act} {Q : Exit → Act → World → Prop} (hg : o.guard = none) (s x : Operand) (t : TypeId)
    (ho : o.op = .call { callee := .builtin .append, args := #[s, x], argTypes := #[t, t] }) (vs vx v' : Value) (w' : World) (hs : a.eval s = vs) (hx : a.eval x = vx)
    (hr : (Builtin.append_ #[t, t] o.type #[vs, vx]).run P w = .ok v' w') (h : wpListIn F m P ops Q rest (a.put o.dst v') w') : wpListIn F m P ops Q (o :: rest) a w := by
  refine wpListIn_plain hg fun K hK => ?_
  unfold Oper.wpIn
  refine ⟨by simp [Oper.about, ho, resolve, Target.leads, Sem.run_pure], ?_⟩
  rw [Oper.semAt_plain F _ _ (by rw [ho]; intro c hc; cases hc)]
  simp only [execOp, ho, resolve, invoke, builtin, Sem.run_bind, Sem.run_pure, Result.andThen_ok, List.map_toArray, List.map_cons, List.map_nil, hs, hx, hr]
  exact hK _ _ h

end Go.Proofs.YtgjipbhhdiacmaaDoor
