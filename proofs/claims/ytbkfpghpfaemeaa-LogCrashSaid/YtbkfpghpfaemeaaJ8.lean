/-
  Texts that the walks of the statements over logs lean on, joined (LogReg, LogScan, RefScan, LogAdd, OpnReg). Conditions: those that each theorem names.
-/
import Derived.Test.YtbkfpghpfaemeaaJ2
import Derived.Test.YtbkfpghpfaemeaaJ5
import Derived.Test.YtbkfpghpfaemeaaJ6
import Derived.Test.YtbkfpghpfaemeaaJ7

/-
  The region of 'records' of package log that yields a record: whatever the order. Conditions: those that each theorem names.
-/
namespace Go.Proofs.Ytbkfpghpfaemeaa
open Go.RowKit Go.Shelf

section
variable {P : Program} {ops : Array Oper} {Q : Exit → Act → World → Prop}
/-- Operation i of these is that one, with that guard, and waits for those. -/
def AtG (ops : Array Oper) (i : Nat) (dst : Option Tmp) (op : Op) (g : Option (Nat × Bool)) (js : List Nat) : Prop :=
  ∃ o, ops[i]? = some o ∧ o.dst = dst ∧ o.op = op ∧ o.guard = g ∧ (js.all fun j => o.after.any fun e => Region.binds .any e && e.on == j) = true
section
variable {i : Nat} {dst : Option Tmp} {op : Op} {g : Option (Nat × Bool)} {js : List Nat}
theorem AtG.needs (h : AtG ops i dst op g js) {o : Oper} (ho : ops[i]? = some o) {L : Nat → Bool} (hall : ∀ e ∈ o.after, Region.binds .any e = true → L e.on = true) : ∀ j ∈ js, L j = true := by
  obtain ⟨o', ho', _, _, _, hj⟩ := h
  rw [ho] at ho'
  injection ho' with e
  subst e
  intro j hjs
  have h1 := List.all_eq_true.1 hj j hjs
  rw [Array.any_eq_true'] at h1
  obtain ⟨e, he, h2⟩ := h1
  simp only [Bool.and_eq_true, beq_iff_eq] at h2
  rw [← h2.2]
  exact hall e he h2.1
theorem AtG.not (h : AtG ops i dst op g js) {L : Nat → Bool} (hc : Clo ops L) {j : Nat} (hj : j ∈ js) (hn : L j = false) : L i = false := by
  obtain ⟨o, ho, _⟩ := id h
  cases hv : L i with
  | false => rfl
  | true => have := h.needs ho (hc i o ho hv) j hj; rw [hn] at this; cases this
theorem yielded_at (h : AtG ops i dst op g js) {a : Act} {d : Nat} {b : Bool} (hd : dst = some d) (he : a.eval (.tmp d) = .bool b) : yielded ops a.tmps i = some b := by
  obtain ⟨o, ho, h1, _⟩ := h
  have hx : a.tmps[d]? = some (.bool b) := by
    simp only [Act.eval, Array.getD_eq_getD_getElem?] at he
    cases hv : a.tmps[d]? with
    | none => rw [hv] at he; cases he
    | some v => rw [hv] at he; simp only [Option.getD_some] at he; rw [he]
  unfold yielded
  rw [ho, Option.bind_some, h1, hd, Option.bind_some, hx]
theorem AtG.runIn {F : Fence} {m : Nat} (h : AtG ops i dst op g js) {K : Act → World → Prop} {a : Act} {w : World} (hg : ∀ p ∈ g, yielded ops a.tmps p.1 = some p.2)
    (hr : ∀ o : Oper, o.dst = dst → o.op = op → o.wpIn F m P a w K Q) : wpOpIn F m P ops Q i K a w := by
  obtain ⟨o, ho, h1, h2, h4, _⟩ := h
  unfold wpOpIn
  rw [ho]
  dsimp only
  rw [if_pos (by
    unfold Region.wanted; rw [h4]
    cases hgv : g with
    | none => rfl
    | some p => rw [hgv] at hg; simp [hg p (by simp)])]
  exact hr o h1 h2
end
end

section
variable {F : Fence} {m : Nat} {K : Act → World → Prop} {Q : Exit → Act → World → Prop} {a : Act} {w : World} {dst : Option Tmp} {x y : Operand} {o : Oper}
/-- An operation in any fence, from what it does as it stands. -/
theorem opG_of (o : Oper) (hq : ∀ f, o.about Try.prog w a.eval = some f → F.fn f) (hd : ∀ c, o.op ≠ .defer c) {v : Value} {w' : World} (hr : (execOp a.eval o).run Try.prog w = .ok (.value v) w') (h : K (a.put o.dst v) w') : o.wpIn F m Try.prog a w K Q := by
  refine ⟨hq, ?_⟩
  rw [Oper.semAt_plain F _ _ hd, hr]
  exact h
theorem opG_move {v : Value} (h1 : o.dst = dst) (h2 : o.op = .move x) (hx : a.eval x = v) (h : K (a.put dst v) w) : o.wpIn Fence.wide m Try.prog a w K Q := by
  subst h1
  refine opG_of o (fun _ _ => trivial) (by intro c; simp [h2]) ?_ h
  unfold execOp
  simp only [h2, hx]
  go_simp
theorem opG_neq {i j : Int} (h1 : o.dst = dst) (h2 : o.op = .binOp .neq 30 x y 30) (hx : a.eval x = .int .i64 i) (hy : a.eval y = .int .i64 j) (h : K (a.put dst (.bool (!(i == j)))) w) : o.wpIn Fence.wide m Try.prog a w K Q := by
  subst h1
  refine opG_of o (fun _ _ => trivial) (by intro c; simp [h2]) ?_ h
  unfold execOp
  simp only [h2, hx, hy]
  go_simp
  rfl
theorem opG_loadRec {b k n c : Nat} {A : Option Addr} (h1 : o.dst = dst) (h2 : o.op = .load 43 x) (hx : a.eval x = .pointer (some ⟨b, 0, none⟩)) (hc : w.cell? ⟨b, 0, none⟩ = some (.int .u8 (k : Int))) (hc1 : w.cell? ⟨b, 1, none⟩ = some (.slice A n c)) (h : K (a.put dst (.agg #[.int .u8 (k : Int), .slice A n c])) w) : o.wpIn Fence.wide m Try.prog a w K Q := by
  subst h1
  refine opG_of o (fun _ _ => trivial) (by intro c; simp [h2]) ?_ h
  unfold execOp
  simp only [h2, hx]
  go_simp
theorem opG_loadRows {p : Addr} {A : Option Addr} {n c : Nat} (h1 : o.dst = dst) (h2 : o.op = .load 71 x) (hx : a.eval x = .pointer (some p)) (hc : w.cell? p = some (.slice A n c)) (h : K (a.put dst (.slice A n c)) w) : o.wpIn Fence.wide m Try.prog a w K Q := by
  subst h1
  refine opG_of o (fun _ _ => trivial) (by intro c; simp [h2]) ?_ h
  unfold execOp
  simp only [h2, hx]
  go_simp
theorem opG_loadRow {p : Addr} {A : Option Addr} {n c : Nat} (h1 : o.dst = dst) (h2 : o.op = .load 22 x) (hx : a.eval x = .pointer (some p)) (hc : w.cell? p = some (.slice A n c)) (h : K (a.put dst (.slice A n c)) w) : o.wpIn Fence.wide m Try.prog a w K Q := by
  subst h1
  refine opG_of o (fun _ _ => trivial) (by intro c; simp [h2]) ?_ h
  unfold execOp
  simp only [h2, hx]
  go_simp
theorem opG_at {b off n c j : Nat} (h1 : o.dst = dst) (h2 : o.op = .indexAddr 71 x y) (hx : a.eval x = .slice (some ⟨b, off, none⟩) n c) (hy : a.eval y = .int .i64 (j : Int)) (hj : j < n) (h : K (a.put dst (.pointer (some ⟨b, off + j, none⟩))) w) : o.wpIn Fence.wide m Try.prog a w K Q := by
  subst h1
  have hji : (j : Int) < (n : Int) := by omega
  refine opG_of o (fun _ _ => trivial) (by intro c; simp [h2]) ?_ h
  unfold execOp
  simp only [h2, hx, hy]
  go_simp
theorem opG_len {A : Option Addr} {n c : Nat} (h1 : o.dst = dst) (h2 : o.op = .call { callee := .builtin .len, args := #[x], argTypes := #[22] }) (hx : a.eval x = .slice A n c) (h : K (a.put dst (.int .i64 (n : Int))) w) : o.wpIn Fence.wide m Try.prog a w K Q := by
  subst h1
  refine opG_of o (fun _ _ => trivial) (by intro c; simp [h2]) ?_ h
  unfold execOp
  simp only [h2, resolve, List.map_toArray, List.map_cons, List.map_nil, hx]
  go_simp
theorem opG_not {b : Bool} (h1 : o.dst = dst) (h2 : o.op = .unOp .not 4 x) (hx : a.eval x = .bool b) (h : K (a.put dst (.bool (!b))) w) : o.wpIn Fence.wide m Try.prog a w K Q := by
  subst h1
  refine opG_of o (fun _ _ => trivial) (by intro c; simp [h2]) ?_ h
  unfold execOp
  simp only [h2, hx]
  go_simp
theorem opG_pick {v : Value} (h1 : o.dst = dst) (h2 : o.op = .pick x (.const (.bool true)) y) (hx : a.eval x = .bool false) (hy : a.eval y = v) (h : K (a.put dst v) w) : o.wpIn Fence.wide m Try.prog a w K Q := by
  subst h1
  refine opG_of o (fun _ _ => trivial) (by intro c; simp [h2]) ?_ h
  unfold execOp
  simp only [h2, hx, hy]
  go_simp
theorem opG_long {T : Ending → World → Prop} {v0 : Value} (h1 : o.dst = dst) (h2 : o.op = .call { callee := .value (.func 43), args := #[x], argTypes := #[3] }) (hx : a.eval x = v0) (hc : Calls Try.prog 43 #[v0] w T) (h : ∀ e w', T e w' → ∃ v, e = .returned v ∧ K (a.put dst v) w') : o.wpIn Fence.wide m Try.prog a w K Q := by
  subst h1
  have hf : a.eval (.func 43) = .func (.func 43) #[] #[] := rfl
  refine ⟨fun _ _ => trivial, ?_⟩
  rw [Oper.semAt_plain Fence.wide _ _ (by intro c; simp [h2])]
  unfold execOp
  simp only [h2, resolve, List.map_toArray, List.map_cons, List.map_nil, hx, hf]
  go_simp
  refine ⟨fun h => (by cases h), (callsIn_wide.2 hc).mono ?_⟩
  intro e w' hT
  obtain ⟨v, rfl, hK⟩ := h e w' hT
  exact hK
theorem opG_yield {R : Ending → World → Prop} {l : Nat} {z : Operand} {vy vz : Value} (h1 : o.dst = dst) (h2 : o.op = .call { callee := .value x, args := #[y, z], argTypes := #[43, 3] }) (hx : a.eval x = .func (.yield l) #[] #[]) (hy : a.eval y = vy) (hz : a.eval z = vz) (hc : YieldAt Fence.wide (m - 1) Try.prog l #[vy, vz] w R) (h : ∀ e w', R e w' → ∃ v, e = .returned v ∧ K (a.put dst v) w') : o.wpIn Fence.wide m Try.prog a w K Q := by
  subst h1
  obtain ⟨fn, tmps, assign, body, hyl, hR⟩ := hc
  refine ⟨fun _ _ => trivial, ?_⟩
  rw [Oper.semAt_plain Fence.wide _ _ (by intro c; simp [h2])]
  unfold execOp
  simp only [h2, resolve, List.map_toArray, List.map_cons, List.map_nil, hx, hy, hz]
  go_simp
  refine ⟨fun h => (by cases h), hR.mono ?_⟩
  intro e w' hT
  obtain ⟨v, rfl, hK⟩ := h e w' hT
  exact hK
end

abbrev lrDs : List Nat := [18, 19, 20, 21, 22, 23, 24, 25, 26, 27, 28, 29, 30, 31]

/-- What holds behind any operations of the region that have come up. -/
structure LRI (a0 : Act) (W0 : World) (l bt bs k : Nat) (A : Option Addr) (n c bp op np cp j : Nat) (Aq : Option Addr) (nq cq F : Nat) (After : Bool → World → Prop) (L : Nat → Bool) (a : Act) (w : World) : Prop where
  agree : Agree lrDs a0 a
  x0 : L 0 = true → a.eval (.tmp 18) = .int .i64 0
  x1 : L 1 = true → a.eval (.tmp 19) = .bool false
  x2 : L 2 = true → a.eval (.tmp 20) = .bool false
  x3 : L 3 = true → a.eval (.tmp 21) = .func (.yield l) #[] #[]
  x4 : L 4 = true → a.eval (.tmp 22) = .agg #[.int .u8 (k : Int), .slice A n c]
  x5 : L 5 = true → a.eval (.tmp 23) = .slice (some ⟨bp, op, none⟩) np cp
  x6 : L 6 = true → a.eval (.tmp 24) = .int .i64 (j : Int)
  x7 : L 7 = true → a.eval (.tmp 25) = .pointer (some ⟨bp, op + j, none⟩)
  x8 : L 8 = true → a.eval (.tmp 26) = .slice Aq nq cq
  x9 : L 9 = true → a.eval (.tmp 27) = .int .i64 (nq : Int)
  x10 : L 10 = true → a.eval (.tmp 28) = .int .i64 (F : Int)
  s0 : L 11 = false → Below W0.heap.size W0 w
  s11 : L 11 = true → ∃ b, After b w ∧ a.eval (.tmp 29) = .bool b ∧ (L 12 = true → a.eval (.tmp 30) = .bool (!b)) ∧ (L 13 = true → a.eval (.tmp 31) = .bool (!b))

set_option maxHeartbeats 1000000 in
theorem lr_region {ops : Array Oper} {Q : Exit → Act → World → Prop} {id m l : Nat} (hsize : ops.size = 14) (hlow : lowOnly ops = true)
    (o0 : AtG ops 0 (some 18) (.move (.tmp 5)) none [])
    (o1 : AtG ops 1 (some 19) (.binOp .neq 30 (.tmp 18) (.const (.int .i64 0)) 30) none [0])
    (o2 : AtG ops 2 (some 20) (.move (.tmp 19)) none [1])
    (o3 : AtG ops 3 (some 21) (.move (.tmp 0)) (some (2, false)) [2])
    (o4 : AtG ops 4 (some 22) (.load 43 (.tmp 4)) (some (2, false)) [2])
    (o5 : AtG ops 5 (some 23) (.load 71 (.tmp 1)) (some (2, false)) [2])
    (o6 : AtG ops 6 (some 24) (.move (.tmp 3)) (some (2, false)) [2])
    (o7 : AtG ops 7 (some 25) (.indexAddr 71 (.tmp 23) (.tmp 24)) (some (2, false)) [2, 5, 6])
    (o8 : AtG ops 8 (some 26) (.load 22 (.tmp 25)) (some (2, false)) [2, 7])
    (o9 : AtG ops 9 (some 27) (.call { callee := .builtin .len, args := #[.tmp 26], argTypes := #[22] }) (some (2, false)) [2, 8])
    (o10 : AtG ops 10 (some 28) (.call { callee := .value (.func 43), args := #[.tmp 27], argTypes := #[3] }) (some (2, false)) [2, 9])
    (o11 : AtG ops 11 (some 29) (.call { callee := .value (.tmp 21), args := #[.tmp 22, .tmp 28], argTypes := #[43, 3] }) (some (2, false)) [2, 3, 4, 10])
    (o12 : AtG ops 12 (some 30) (.unOp .not 4 (.tmp 29)) (some (2, false)) [2, 11])
    (o13 : AtG ops 13 (some 31) (.pick (.tmp 20) (.const (.bool true)) (.tmp 30)) none [2, 12])
    (a0 : Act) (hds : ∀ d ∈ lrDs, d < a0.tmps.size) (W0 : World) (bt bs k : Nat) (A : Option Addr) (n c bp op np cp j : Nat) (Aq : Option Addr) (nq cq F : Nat) (After : Bool → World → Prop)
    (h0 : a0.eval (.tmp 0) = .func (.yield l) #[] #[]) (h1 : a0.eval (.tmp 1) = .pointer (some ⟨bs, 0, none⟩)) (h3 : a0.eval (.tmp 3) = .int .i64 (j : Int)) (h4 : a0.eval (.tmp 4) = .pointer (some ⟨bt, 0, none⟩)) (h5 : a0.eval (.tmp 5) = .int .i64 0)
    (hbt : Whole W0 bt 43 #[.int .u8 (k : Int), .slice A n c]) (hbs : Whole W0 bs 71 #[.slice (some ⟨bp, op, none⟩) np cp]) (hjn : j < np) (hbp : bp < W0.heap.size) (hq : W0.cell? ⟨bp, op + j, none⟩ = some (.slice Aq nq cq))
    (hlong : ∀ w : World, Calls Try.prog 43 #[.int .i64 (nq : Int)] w fun e w' => e = .returned (.int .i64 (F : Int)) ∧ Below w.heap.size w w')
    (hy : ∀ w : World, Below W0.heap.size W0 w → YieldAt Fence.wide (m - 1) Try.prog l #[.agg #[.int .u8 (k : Int), .slice A n c], .int .i64 (F : Int)] w fun e w' => ∃ b, e = .returned (.bool b) ∧ After b w')
    (fin : ∀ (σ : Nat → Value) w b, σ 31 = .bool (!b) → After b w → Q .normal (lay σ lrDs a0) w) :
    (Code.region id ops true).wpIn Fence.wide m Try.prog Q a0 W0 := by
  refine region_cloIn (by kernel_rfl) hlow (fun L a w => LRI a0 W0 l bt bs k A n c bp op np cp j Aq nq cq F After L a w) ?_ ?_ ?_
  · exact ⟨Agree.refl _ _, by simp, by simp, by simp, by simp, by simp, by simp, by simp, by simp, by simp, by simp, by simp, fun _ => (Below.refl _ _).drew, by simp⟩
  · rintro i o L a w ho hi hclo hall I
    have hlt : i < 14 := by rw [← hsize]; exact (Array.getElem?_eq_some_iff.1 ho).1
    have hz : ∀ d ∈ lrDs, d < a.tmps.size := fun d hd => by rw [I.agree.size]; exact hds d hd
    have hgd : L 2 = true → ∀ p ∈ (some (2, false) : Option (Nat × Bool)), yielded ops a.tmps p.1 = some p.2 := fun h2 p hp => by
      simp only [Option.mem_def, Option.some.injEq] at hp
      subst hp
      exact yielded_at o2 rfl (I.x2 h2)
    rcases (by omega : i = 0 ∨ i = 1 ∨ i = 2 ∨ i = 3 ∨ i = 4 ∨ i = 5 ∨ i = 6 ∨ i = 7 ∨ i = 8 ∨ i = 9 ∨ i = 10 ∨ i = 11 ∨ i = 12 ∨ i = 13) with rfl | rfl | rfl | rfl | rfl | rfl | rfl | rfl | rfl | rfl | rfl | rfl | rfl | rfl
    · have hd := o0.needs ho hall
      refine o0.runIn (by simp) fun o' p1 p2 => opG_move p1 p2 ((I.agree.eval (by decide)).trans h5) ⟨I.agree.put (by decide) _, ?_, ?_, ?_, ?_, ?_, ?_, ?_, ?_, ?_, ?_, ?_, ?_, ?_⟩
      · intro _; exact eval_new (hz _ (by decide)) _
      · simpa [eval_old] using I.x1
      · simpa [eval_old] using I.x2
      · simpa [eval_old] using I.x3
      · simpa [eval_old] using I.x4
      · simpa [eval_old] using I.x5
      · simpa [eval_old] using I.x6
      · simpa [eval_old] using I.x7
      · simpa [eval_old] using I.x8
      · simpa [eval_old] using I.x9
      · simpa [eval_old] using I.x10
      · simpa [eval_old] using I.s0
      · simpa [eval_old] using I.s11
    · have hd := o1.needs ho hall
      refine o1.runIn (by simp) fun o' p1 p2 => opG_neq p1 p2 (I.x0 (hd 0 (by simp))) rfl ⟨I.agree.put (by decide) _, ?_, ?_, ?_, ?_, ?_, ?_, ?_, ?_, ?_, ?_, ?_, ?_, ?_⟩
      · simpa [eval_old] using I.x0
      · intro _; exact (eval_new (hz _ (by decide)) _)
      · simpa [eval_old] using I.x2
      · simpa [eval_old] using I.x3
      · simpa [eval_old] using I.x4
      · simpa [eval_old] using I.x5
      · simpa [eval_old] using I.x6
      · simpa [eval_old] using I.x7
      · simpa [eval_old] using I.x8
      · simpa [eval_old] using I.x9
      · simpa [eval_old] using I.x10
      · simpa [eval_old] using I.s0
      · simpa [eval_old] using I.s11
    · have hd := o2.needs ho hall
      refine o2.runIn (by simp) fun o' p1 p2 => opG_move p1 p2 (I.x1 (hd 1 (by simp))) ⟨I.agree.put (by decide) _, ?_, ?_, ?_, ?_, ?_, ?_, ?_, ?_, ?_, ?_, ?_, ?_, ?_⟩
      · simpa [eval_old] using I.x0
      · simpa [eval_old] using I.x1
      · intro _; exact eval_new (hz _ (by decide)) _
      · simpa [eval_old] using I.x3
      · simpa [eval_old] using I.x4
      · simpa [eval_old] using I.x5
      · simpa [eval_old] using I.x6
      · simpa [eval_old] using I.x7
      · simpa [eval_old] using I.x8
      · simpa [eval_old] using I.x9
      · simpa [eval_old] using I.x10
      · simpa [eval_old] using I.s0
      · simpa [eval_old] using I.s11
    · have hd := o3.needs ho hall
      refine o3.runIn (hgd (hd 2 (by simp))) fun o' p1 p2 => opG_move p1 p2 ((I.agree.eval (by decide)).trans h0) ⟨I.agree.put (by decide) _, ?_, ?_, ?_, ?_, ?_, ?_, ?_, ?_, ?_, ?_, ?_, ?_, ?_⟩
      · simpa [eval_old] using I.x0
      · simpa [eval_old] using I.x1
      · simpa [eval_old] using I.x2
      · intro _; exact eval_new (hz _ (by decide)) _
      · simpa [eval_old] using I.x4
      · simpa [eval_old] using I.x5
      · simpa [eval_old] using I.x6
      · simpa [eval_old] using I.x7
      · simpa [eval_old] using I.x8
      · simpa [eval_old] using I.x9
      · simpa [eval_old] using I.x10
      · simpa [eval_old] using I.s0
      · simpa [eval_old] using I.s11
    · have hd := o4.needs ho hall
      refine o4.runIn (hgd (hd 2 (by simp))) fun o' p1 p2 => opG_loadRec p1 p2 (by rw [I.agree.eval (by decide)]; exact h4) ((hbt.under (I.s0 (o11.not hclo (j := 4) (by simp) hi))).cell 0) ((hbt.under (I.s0 (o11.not hclo (j := 4) (by simp) hi))).cell 1) ⟨I.agree.put (by decide) _, ?_, ?_, ?_, ?_, ?_, ?_, ?_, ?_, ?_, ?_, ?_, ?_, ?_⟩
      · simpa [eval_old] using I.x0
      · simpa [eval_old] using I.x1
      · simpa [eval_old] using I.x2
      · simpa [eval_old] using I.x3
      · intro _; exact eval_new (hz _ (by decide)) _
      · simpa [eval_old] using I.x5
      · simpa [eval_old] using I.x6
      · simpa [eval_old] using I.x7
      · simpa [eval_old] using I.x8
      · simpa [eval_old] using I.x9
      · simpa [eval_old] using I.x10
      · simpa [eval_old] using I.s0
      · simpa [eval_old] using I.s11
    · have hd := o5.needs ho hall
      refine o5.runIn (hgd (hd 2 (by simp))) fun o' p1 p2 => opG_loadRows p1 p2 (by rw [I.agree.eval (by decide)]; exact h1) ((hbs.under (I.s0 (o11.not hclo (j := 10) (by simp) (o10.not hclo (j := 9) (by simp) (o9.not hclo (j := 8) (by simp) (o8.not hclo (j := 7) (by simp) (o7.not hclo (j := 5) (by simp) hi))))))).cell 0) ⟨I.agree.put (by decide) _, ?_, ?_, ?_, ?_, ?_, ?_, ?_, ?_, ?_, ?_, ?_, ?_, ?_⟩
      · simpa [eval_old] using I.x0
      · simpa [eval_old] using I.x1
      · simpa [eval_old] using I.x2
      · simpa [eval_old] using I.x3
      · simpa [eval_old] using I.x4
      · intro _; exact eval_new (hz _ (by decide)) _
      · simpa [eval_old] using I.x6
      · simpa [eval_old] using I.x7
      · simpa [eval_old] using I.x8
      · simpa [eval_old] using I.x9
      · simpa [eval_old] using I.x10
      · simpa [eval_old] using I.s0
      · simpa [eval_old] using I.s11
    · have hd := o6.needs ho hall
      refine o6.runIn (hgd (hd 2 (by simp))) fun o' p1 p2 => opG_move p1 p2 ((I.agree.eval (by decide)).trans h3) ⟨I.agree.put (by decide) _, ?_, ?_, ?_, ?_, ?_, ?_, ?_, ?_, ?_, ?_, ?_, ?_, ?_⟩
      · simpa [eval_old] using I.x0
      · simpa [eval_old] using I.x1
      · simpa [eval_old] using I.x2
      · simpa [eval_old] using I.x3
      · simpa [eval_old] using I.x4
      · simpa [eval_old] using I.x5
      · intro _; exact eval_new (hz _ (by decide)) _
      · simpa [eval_old] using I.x7
      · simpa [eval_old] using I.x8
      · simpa [eval_old] using I.x9
      · simpa [eval_old] using I.x10
      · simpa [eval_old] using I.s0
      · simpa [eval_old] using I.s11
    · have hd := o7.needs ho hall
      refine o7.runIn (hgd (hd 2 (by simp))) fun o' p1 p2 => opG_at p1 p2 (I.x5 (hd 5 (by simp))) (I.x6 (hd 6 (by simp))) hjn ⟨I.agree.put (by decide) _, ?_, ?_, ?_, ?_, ?_, ?_, ?_, ?_, ?_, ?_, ?_, ?_, ?_⟩
      · simpa [eval_old] using I.x0
      · simpa [eval_old] using I.x1
      · simpa [eval_old] using I.x2
      · simpa [eval_old] using I.x3
      · simpa [eval_old] using I.x4
      · simpa [eval_old] using I.x5
      · simpa [eval_old] using I.x6
      · intro _; exact eval_new (hz _ (by decide)) _
      · simpa [eval_old] using I.x8
      · simpa [eval_old] using I.x9
      · simpa [eval_old] using I.x10
      · simpa [eval_old] using I.s0
      · simpa [eval_old] using I.s11
    · have hd := o8.needs ho hall
      refine o8.runIn (hgd (hd 2 (by simp))) fun o' p1 p2 => opG_loadRow p1 p2 (I.x7 (hd 7 (by simp))) (((I.s0 (o11.not hclo (j := 10) (by simp) (o10.not hclo (j := 9) (by simp) (o9.not hclo (j := 8) (by simp) hi)))).cell (p := ⟨bp, op + j, none⟩) hbp).trans hq) ⟨I.agree.put (by decide) _, ?_, ?_, ?_, ?_, ?_, ?_, ?_, ?_, ?_, ?_, ?_, ?_, ?_⟩
      · simpa [eval_old] using I.x0
      · simpa [eval_old] using I.x1
      · simpa [eval_old] using I.x2
      · simpa [eval_old] using I.x3
      · simpa [eval_old] using I.x4
      · simpa [eval_old] using I.x5
      · simpa [eval_old] using I.x6
      · simpa [eval_old] using I.x7
      · intro _; exact eval_new (hz _ (by decide)) _
      · simpa [eval_old] using I.x9
      · simpa [eval_old] using I.x10
      · simpa [eval_old] using I.s0
      · simpa [eval_old] using I.s11
    · have hd := o9.needs ho hall
      refine o9.runIn (hgd (hd 2 (by simp))) fun o' p1 p2 => opG_len p1 p2 (I.x8 (hd 8 (by simp))) ⟨I.agree.put (by decide) _, ?_, ?_, ?_, ?_, ?_, ?_, ?_, ?_, ?_, ?_, ?_, ?_, ?_⟩
      · simpa [eval_old] using I.x0
      · simpa [eval_old] using I.x1
      · simpa [eval_old] using I.x2
      · simpa [eval_old] using I.x3
      · simpa [eval_old] using I.x4
      · simpa [eval_old] using I.x5
      · simpa [eval_old] using I.x6
      · simpa [eval_old] using I.x7
      · simpa [eval_old] using I.x8
      · intro _; exact eval_new (hz _ (by decide)) _
      · simpa [eval_old] using I.x10
      · simpa [eval_old] using I.s0
      · simpa [eval_old] using I.s11
    · have hd := o10.needs ho hall
      have n11 := (o11.not hclo (j := 10) (by simp) hi)
      refine o10.runIn (hgd (hd 2 (by simp))) fun o' p1 p2 => opG_long p1 p2 (I.x9 (hd 9 (by simp))) (hlong w) ?_
      rintro e w' ⟨rfl, hb⟩
      refine ⟨_, rfl, I.agree.put (by decide) _, ?_, ?_, ?_, ?_, ?_, ?_, ?_, ?_, ?_, ?_, ?_, ?_, ?_⟩
      · simpa [eval_old] using I.x0
      · simpa [eval_old] using I.x1
      · simpa [eval_old] using I.x2
      · simpa [eval_old] using I.x3
      · simpa [eval_old] using I.x4
      · simpa [eval_old] using I.x5
      · simpa [eval_old] using I.x6
      · simpa [eval_old] using I.x7
      · simpa [eval_old] using I.x8
      · simpa [eval_old] using I.x9
      · intro _; exact eval_new (hz _ (by decide)) _
      · intro _; exact (I.s0 n11).trans (hb.mono (I.s0 n11).size)
      · intro h; simp [n11] at h
    · have hd := o11.needs ho hall
      have n12 := o12.not hclo (j := 11) (by simp) hi
      have n13 := o13.not hclo (j := 12) (by simp) n12
      refine o11.runIn (hgd (hd 2 (by simp))) fun o' p1 p2 => opG_yield p1 p2 (I.x3 (hd 3 (by simp))) (I.x4 (hd 4 (by simp))) (I.x10 (hd 10 (by simp))) (hy w (I.s0 hi)) ?_
      rintro e w' ⟨b, rfl, hA⟩
      refine ⟨_, rfl, I.agree.put (by decide) _, ?_, ?_, ?_, ?_, ?_, ?_, ?_, ?_, ?_, ?_, ?_, ?_, ?_⟩
      · simpa [eval_old] using I.x0
      · simpa [eval_old] using I.x1
      · simpa [eval_old] using I.x2
      · simpa [eval_old] using I.x3
      · simpa [eval_old] using I.x4
      · simpa [eval_old] using I.x5
      · simpa [eval_old] using I.x6
      · simpa [eval_old] using I.x7
      · simpa [eval_old] using I.x8
      · simpa [eval_old] using I.x9
      · simpa [eval_old] using I.x10
      · simp
      · intro _
        exact ⟨b, hA, eval_new (hz _ (by decide)) _, by simp [n12], by simp [n13]⟩
    · have hd := o12.needs ho hall
      have n13 := o13.not hclo (j := 12) (by simp) hi
      obtain ⟨b, hA, e29, _, _⟩ := I.s11 (hd 11 (by simp))
      refine o12.runIn (hgd (hd 2 (by simp))) fun o' p1 p2 => opG_not p1 p2 e29 ⟨I.agree.put (by decide) _, ?_, ?_, ?_, ?_, ?_, ?_, ?_, ?_, ?_, ?_, ?_, ?_, ?_⟩
      · simpa [eval_old] using I.x0
      · simpa [eval_old] using I.x1
      · simpa [eval_old] using I.x2
      · simpa [eval_old] using I.x3
      · simpa [eval_old] using I.x4
      · simpa [eval_old] using I.x5
      · simpa [eval_old] using I.x6
      · simpa [eval_old] using I.x7
      · simpa [eval_old] using I.x8
      · simpa [eval_old] using I.x9
      · simpa [eval_old] using I.x10
      · simpa [eval_old] using I.s0
      · intro _
        exact ⟨b, hA, by simpa [eval_old] using e29, fun _ => eval_new (hz _ (by decide)) _, by simp [n13]⟩
    · have hd := o13.needs ho hall
      have d11 := o12.not hclo (j := 11) (by simp)
      have l11 : L 11 = true := by
        cases hv : L 11 with
        | true => rfl
        | false => have := d11 hv; rw [hd 12 (by simp)] at this; cases this
      obtain ⟨b, hA, e29, e30, _⟩ := I.s11 l11
      refine o13.runIn (by simp) fun o' p1 p2 => opG_pick p1 p2 (I.x2 (hd 2 (by simp))) (e30 (hd 12 (by simp))) ⟨I.agree.put (by decide) _, ?_, ?_, ?_, ?_, ?_, ?_, ?_, ?_, ?_, ?_, ?_, ?_, ?_⟩
      · simpa [eval_old] using I.x0
      · simpa [eval_old] using I.x1
      · simpa [eval_old] using I.x2
      · simpa [eval_old] using I.x3
      · simpa [eval_old] using I.x4
      · simpa [eval_old] using I.x5
      · simpa [eval_old] using I.x6
      · simpa [eval_old] using I.x7
      · simpa [eval_old] using I.x8
      · simpa [eval_old] using I.x9
      · simpa [eval_old] using I.x10
      · simpa [eval_old] using I.s0
      · intro _
        exact ⟨b, hA, by simpa [eval_old] using e29, by simpa [eval_old] using e30, fun _ => eval_new (hz _ (by decide)) _⟩
  · intro L a w hall I
    obtain ⟨b, hA, _, _, e31⟩ := I.s11 (hall 11 (by omega))
    have e31 := e31 (hall 13 (by omega))
    rw [I.agree.lay hds]
    exact fin (fun d => a.eval (.tmp d)) w b e31 hA

end Go.Proofs.Ytbkfpghpfaemeaa

/-
  The walks of 'records' of package log, of the iterator that it hands back, and of 'Scan'. Conditions: those that each theorem names.
-/
namespace Go.Proofs.Ytbkfpghpfaemeaa
open Go.RowKit Go.Shelf
attribute [local go_sem] Oper.semAt_some

/-- Frames that bytes begin with are among all of them, from the first on. -/
theorem all_prefix {M ps : List (List Nat)} {bs : List Nat} {used : Nat} (h : AllIs bs ps used) (hM : ∀ p ∈ M, p.length ≤ 4000) (hp : M.flatMap fr <+: bs) : M <+: ps := by
  have main : ∀ j, j ≤ M.length → M.take j = ps.take j ∧ j ≤ ps.length := by
    intro j
    induction j with
    | zero => intro _; simp
    | succ j ih =>
      intro hj
      obtain ⟨h1, h2⟩ := ih (by omega)
      have hjM : j < M.length := by omega
      have hsp : M = M.take j ++ M[j] :: M.drop (j + 1) := by rw [List.getElem_cons_drop, List.take_append_drop]
      have hM2 : IsFr (bs.drop ((M.take j).flatMap fr).length) M[j] := by
        obtain ⟨t, ht⟩ := hp
        rw [hsp, List.flatMap_append, List.flatMap_cons, List.append_assoc, List.append_assoc] at ht
        rw [← ht, List.drop_left]
        exact isFr_fr (hM _ (List.getElem_mem hjM)) _
      rcases Nat.lt_or_ge j ps.length with hlt | hge
      · have hsq : ps = ps.take j ++ ps[j] :: ps.drop (j + 1) := by rw [List.getElem_cons_drop, List.take_append_drop]
        have h3 := h
        rw [hsq] at h3
        have h4 := h3.next
        rw [← h1] at h4
        have h5 := isFr_one hM2 h4
        refine ⟨?_, by omega⟩
        rw [List.take_succ_eq_append_getElem hjM, List.take_succ_eq_append_getElem hlt, h1, h5]
      · exfalso
        have h3 : M.take j = ps := by rw [h1, List.take_of_length_le hge]
        rw [h3, ← h.2.1] at hM2
        exact h.2.2.2 _ hM2
  have := main M.length (Nat.le_refl _)
  rw [List.take_length] at this
  exact ⟨ps.drop M.length, by conv => lhs; lhs; rw [this.1]
                              exact List.take_append_drop _ _⟩

/-- The log's records are the payloads that are records, from the first one on. -/
theorem log_all {bs : List Nat} {L : List PR} {u : Nat} {ps : List (List Nat)} {used : Nat} (hL : LogIs bs L u) (h : AllIs bs ps used) (hb : ∀ x ∈ bs, x < 256) :
    (∀ (j : Nat) (r : PR), L[j]? = some r → ps[j]? = some (pl r)) ∧ L.length ≤ ps.length ∧ ∀ p, ps[L.length]? = some p → takenRec p = none := by
  have h1 : L.map pl <+: ps := all_prefix h (fun p hp => by
    obtain ⟨r, hr, rfl⟩ := List.mem_map.1 hp
    exact pl_len (hL.ok r hr)) (by
    refine ⟨bs.drop u, ?_⟩
    rw [List.flatMap_map]
    exact hL.split.symm)
  obtain ⟨t, ht⟩ := h1
  have hl : (L.map pl).length = L.length := List.length_map ..
  refine ⟨fun j r hr => ?_, ?_, fun p hp => ?_⟩
  · have hj : j < L.length := (List.getElem?_eq_some_iff.1 hr).1
    rw [← ht, List.getElem?_append_left (by omega), List.getElem?_map, hr]; rfl
  · rw [← ht, List.length_append]; omega
  · cases t with
    | nil => rw [← ht, List.append_nil, List.getElem?_eq_none (by omega)] at hp; cases hp
    | cons q t =>
      rw [← ht, List.getElem?_append_right (by omega), hl, Nat.sub_self, List.getElem?_cons_zero] at hp
      cases hp
      have h2 := h
      rw [← ht] at h2
      have h3 := h2.next
      rw [List.flatMap_map] at h3
      have e : (L.flatMap fun a => fr (pl a)).length = u := hL.used.symm
      rw [e] at h3
      cases hv : takenRec p with
      | none => rfl
      | some x =>
        have hpb : ∀ x ∈ p, x < 256 := fun x hx => by
          refine hb x (List.mem_of_mem_drop (i := u) ?_)
          have h5 := h3.2.subset
          refine h5 ?_
          unfold fr
          simp [hx]
        exact absurd (isRec_yes h3 hpb (k := x.1) (l := x.2) hv) (hL.no _)

/-- The box of the payloads, and they. -/
def RcsIs (ps : List (List Nat)) (w : World) (e : Ending) (w' : World) : Prop :=
  ∃ Bs v, e = .returned (.func (.func 41) #[] #[.pointer (some ⟨Bs, 0, none⟩)]) ∧ w.heap.size ≤ Bs ∧ Whole w' Bs 71 #[v] ∧ RowsAt w.heap.size w' v ps ∧ Below w.heap.size w w'

set_option maxHeartbeats 400000 in
theorem records_any (A : Option Addr) (n c : Nat) (bs : List Nat) (ps : List (List Nat)) (used : Nat) (B : Nat) (w : World) (hall : AllIs bs ps used) (hr : Rd w B A n (bv bs)) (hB : B ≤ w.heap.size) (hb : ∀ x ∈ bs, x < 256) (hn : n ≤ 1000000) (hc : n ≤ c) :
    Calls Try.prog 29 #[.slice A n c] w (RcsIs ps w) := by
  have HF := Lib.hid (frAll_any A n c bs ps used B w hall hr hB hb hn hc)
  clear hall hr hB hb hn hc
  go_enter Try.func29, Try.ntmps29
  go_wp2_with fail
  refine (HF.out).mono ?_
  rintro e w1 ⟨A1, c1, rfl, hR, hb1⟩
  have HR := Lib.hid hR
  have HB := Lib.hid hb1
  clear hR hb1
  go_wp2_with fail
  go_ret
  refine ⟨w1.heap.size, _, rfl, HB.out.size, Whole.new w1 _ _, HR.out.under ((Below.refl _ _).alloc (Nat.le_refl _) _), HB.out.alloc HB.out.size _⟩

/-- What is handed over: a record, how many bytes its frame has. -/
structure LR where
  k : Nat
  A : Option Addr
  n : Nat
  c : Nat
  long : Nat
def LR.vals (x : LR) : Array Value := #[.agg #[.int .u8 (x.k : Int), .slice x.A x.n x.c], .int .i64 (x.long : Int)]
structure LR.Fits (base : Nat) (r : PR) (x : LR) (W : World) : Prop where
  kind : x.k = r.1
  many : x.n = r.2.length
  long : x.long = (lfr r).length
  ok : okR r
  own : W.ownsRow base 3 1 (.slice x.A x.n x.c) x.n (iv r.2)
theorem LR.Fits.under {base : Nat} {r : PR} {x : LR} {W W' : World} (h : LR.Fits base r x W) (hb : Below W.heap.size W W') : LR.Fits base r x W' := ⟨h.kind, h.many, h.long, h.ok, own_under h.own hb⟩
theorem LR.Fits.turn {base : Nat} {r : PR} {x : LR} {W W' : World} {row : Option Nat} (h : LR.Fits base r x W) (hg : W.grownBy W' row) (hr : ∀ r, row = some r → ∃ o : Obj, W.heap[r]? = some o ∧ o.isCells = false) : LR.Fits base r x W' :=
  ⟨h.kind, h.many, h.long, h.ok, own_turn h.own hg hr⟩
def LR.Ok (base : Nat) (L : List PR) (pre : List LR) (x : LR) (W : World) : Prop := ∃ r, L[pre.length]? = some r ∧ LR.Fits base r x W
/-- What a round that goes on keeps: the payloads, their box. -/
def KpR (base Bs : Nat) (v : Value) (ps : List (List Nat)) (W W' : World) : Prop := (RowsAt base W v ps → RowsAt base W' v ps) ∧ W'.heap[Bs]? = W.heap[Bs]? ∧ W.heap.size ≤ W'.heap.size
theorem kpR_t {base Bs : Nat} {v : Value} {ps : List (List Nat)} {A B C : World} (h : KpR base Bs v ps A B) (k : KpR base Bs v ps B C) : KpR base Bs v ps A C := ⟨fun g => k.1 (h.1 g), k.2.1.trans h.2.1, Nat.le_trans h.2.2 k.2.2⟩
theorem kpR_b {base Bs : Nat} {v : Value} {ps : List (List Nat)} {w : World} (hBs : Bs < w.heap.size) (W : World) (l : Nat) (o o' : Obj) (hl : w.heap.size ≤ l) (h : W.heap[l]? = some o) (h1 : o.isCells = false) (_ : o.isWalk = false) : KpR base Bs v ps W (W.putObj l o') :=
  ⟨fun g => g.turn (grownBy_putObj' W l o') (fun r e => by cases e; exact ⟨_, h, h1⟩), World.putObj_heap_other (by omega), by simp [World.putObj]⟩
theorem kpR_under {base Bs : Nat} {v : Value} {ps : List (List Nat)} {W W' : World} (hBs : Bs < W.heap.size) (h : Below W.heap.size W W') : KpR base Bs v ps W W' := ⟨fun g => g.under h, h.block Bs hBs, h.size⟩

/-- Where the iterator stands. -/
structure LRInv (base Bs : Nat) (v : Value) (ps : List (List Nat)) (L : List PR) (J : List LR → World → Prop) (pre : List LR) (W : World) : Prop where
  le : pre.length ≤ L.length
  box : Whole W Bs 71 #[v]
  rows : RowsAt base W v ps
  inv : J pre W
def LRAt (l : Nat) (base Bs : Nat) (v : Value) (ps : List (List Nat)) (L : List PR) (J : List LR → World → Prop) (W0 : World) (a' : Act) (w' : World) : Prop :=
  W0.heap.size ≤ w'.heap.size ∧ ∃ (pre : List LR) (u4 u5 u6 u7 u8 u9 u10 u11 u12 u13 u14 u15 u16 u17 u18 u19 u20 u21 u22 u23 u24 u25 u26 u27 u28 u29 u30 u31 u32 u33 : Value), a' = { tmps := #[.func (.yield l) #[] #[], .pointer (some ⟨Bs, 0, none⟩), undef, .int .i64 (pre.length : Int), u4, u5, u6, u7, u8, u9, u10, u11, u12, u13, u14, u15, u16, u17, u18, u19, u20, u21, u22, u23, u24, u25, u26, u27, u28, u29, u30, u31, u32, u33], defers := [] } ∧ LRInv base Bs v ps L J pre w'

set_option maxRecDepth 100000 in
set_option maxHeartbeats 1000000 in
theorem records1_in (m l base Bs : Nat) (v : Value) (ps : List (List Nat)) (L : List PR) (hps : ps.length ≤ 1000000) (hpb : ∀ x ∈ ps, ∀ y ∈ x, y < 256) (hp4 : ∀ p ∈ ps, p.length ≤ 4000) (hok : ∀ r ∈ L, okR r)
    (hL : (∀ (j : Nat) (r : PR), L[j]? = some r → ps[j]? = some (pl r)) ∧ L.length ≤ ps.length ∧ ∀ p, ps[L.length]? = some p → takenRec p = none) (J : List LR → World → Prop) (Jx : World → Prop)
    (W0 : World) (hJ : AbidesFrom W0.heap.size J)
    (hY : ∀ pre x W, J pre W → LR.Ok base L pre x W → YieldAt Fence.wide (m - 1) Try.prog l x.vals W fun e W' =>
      (e = .returned (.bool true) ∧ J (pre ++ [x]) W' ∧ KpR base Bs v ps W W') ∨ (e = .returned (.bool false) ∧ Jx W'))
    (hBs : Whole W0 Bs 71 #[v]) (hb : base ≤ W0.heap.size) (hrows : RowsAt base W0 v ps) (h0 : J [] W0) :
    CallsIn Fence.wide m Try.prog 41 #[.func (.yield l) #[] #[], .pointer (some ⟨Bs, 0, none⟩)] W0 fun e W' => (∃ v, e = .returned v) ∧
      ((∃ ys : List LR, ys.length = L.length ∧ J ys W') ∨ Jx W') := by
  obtain ⟨A, c, rfl⟩ := hrows.form
  have HY := Lib.hid hY
  have HJ := Lib.hid hJ
  have HPB := Lib.hid hpb
  have HP4 := Lib.hid hp4
  have HOk := Lib.hid hok
  have HL := Lib.hid hL
  have H0 : Hid (LRInv base Bs (.slice A ps.length c) ps L J [] W0) := ⟨Nat.zero_le _, hBs, hrows, h0⟩
  have Hb := Lib.hid hb
  clear hY hJ hpb hp4 hok hL hBs hrows h0 hb
  refine callsIn_of_wp Try.func41 rfl trivial ?_ rfl
  simp only [Try.ntmps41, List.size_toArray, List.length_cons, List.length_nil, Nat.reduceAdd, Nat.reduceSub, Array.replicate_succ, Array.replicate_zero, List.push_toArray, List.append_toArray, List.nil_append, List.cons_append]
  gi_wp2_with fail
  refine wpIn_wide.2 (wp_scope_back_behind 0 (LRAt l base Bs (.slice A ps.length c) ps L J W0)
    (fun a' _ => ps.length - (intOf (a'.tmps.getD 3 undef)).toNat) rfl ?ahead (fun a' w' hJ' => wpIn_wide (n := m).1 ?pass))
  case ahead =>
    go_wp2_with fail
    exact ⟨Nat.le_refl _, [], _, _, _, _, _, _, _, _, _, _, _, _, _, _, _, _, _, _, _, _, _, _, _, _, _, _, _, _, _, _, rfl, H0.out⟩
  case pass =>
    obtain ⟨hsz, pre, u4, u5, u6, u7, u8, u9, u10, u11, u12, u13, u14, u15, u16, u17, u18, u19, u20, u21, u22, u23, u24, u25, u26, u27, u28, u29, u30, u31, u32, u33, rfl, hI⟩ := hJ'
    have hle := hI.le
    have hBox := hI.box.cell 0
    simp only [List.getElem?_toArray, List.getElem?_cons_zero] at hBox
    have HI := Lib.hid hI
    clear hI
    by_cases hEnd : pre.length = ps.length
    · have hE : pre.length = L.length := by have := HL.out.2.1; omega
      have hne : ((pre.length : Int) == (ps.length : Int)) = true := by simp; omega
      have HE := Lib.hid hE
      clear hE hEnd
      gi_wp2_with fail
      simp only [Exit.jump]
      refine bodyPost_ret (results_none rfl _ _ _) rfl ?_
      exact ⟨⟨_, rfl⟩, .inl ⟨pre, HE.out, HI.out.inv⟩⟩
    · have hlt : pre.length < ps.length := by have := HL.out.2.1; omega
      have hne : ((pre.length : Int) == (ps.length : Int)) = false := by simp; omega
      have hiL : (pre.length : Int) < (ps.length : Int) := by omega
      obtain ⟨es, hes, hrd⟩ := HI.out.rows.read HPB.out
      obtain ⟨b, off, rfl, hblt, hc⟩ := hrd.2.1 (by omega)
      obtain ⟨y, hy⟩ : ∃ y, es[pre.length]? = some y := ⟨_, List.getElem?_eq_getElem (by rw [hrd.1]; exact hlt)⟩
      have hq := hc _ y hy
      obtain ⟨hyr, hyb, hyc, _⟩ := hrd.2.2 y (List.mem_of_getElem? hy)
      have hpsy : ps[pre.length]? = some y.bs := by rw [← hes, List.getElem?_map, hy]; rfl
      have hy4 := HP4.out _ (List.mem_of_getElem? hpsy)
      have hyn : y.n ≤ 4000 := by have := hyr.1; rw [bv_length] at this; omega
      have HQ := Lib.hid hq
      have HPS := Lib.hid hpsy
      have HYR := Lib.hid hyr
      have HYB := Lib.hid hyb
      have HBlt := Lib.hid hblt
      have HYc := Lib.hid hyc
      cases y with
      | mk Aq nq cq bq =>
      simp only at hq hyn HQ HPS HYR HYB HYc
      clear hc hes hy hrd hyr hyb hy4 hpsy hyc hblt hEnd
      by_cases hmore : pre.length < L.length
      · obtain ⟨r, hr⟩ : ∃ r, L[pre.length]? = some r := ⟨_, List.getElem?_eq_getElem hmore⟩
        have hbq : bq = pl r := Option.some.inj (HPS.out.symm.trans (HL.out.1 _ r hr))
        have hokr := HOk.out r (List.mem_of_getElem? hr)
        have htk : takenRec bq = some (r.1, nats r.2) := by
          have := taken_recB hokr []
          rw [List.append_nil, if_pos rfl] at this
          rw [hbq]; exact this
        have HT : Hid (Calls Try.prog 42 #[.slice Aq nq cq] w' (YesRec r.1 r.2 w')) :=
          (takeRec_is Aq nq cq bq w'.heap.size w' HYR.out (Nat.le_refl _) HYB.out (by omega) HYc.out htk).mono fun e w'' h => by
            have h2 : YesRec r.1 (ints (nats r.2)) w' e w'' := h
            rwa [ints_nats hokr] at h2
        have HRr := Lib.hid hr
        have HOkr := Lib.hid hokr
        have hlong : frLen nq = (lfr r).length := by
          have := HYR.out.1
          rw [bv_length] at this
          unfold lfr
          rw [fr_length, ← hbq, this]
        have HLong := Lib.hid hlong
        clear hr hbq hokr htk hlong
        gi_wp2_with fail
        refine ⟨trivial, fun h => (by cases h), (callsIn_wide.2 HT.out).mono ?_⟩
        rintro e w1 ⟨A1, c1, rfl, ho1, hb1⟩
        have HO1 := Lib.hid ho1
        have HB1 := Lib.hid hb1
        clear ho1 hb1 HT
        gi_wp2_with fail
        obtain ⟨x, hx⟩ : ∃ x : LR, x = ⟨r.1, A1, r.2.length, c1, frLen nq⟩ := ⟨_, rfl⟩
        obtain ⟨W2, hW2⟩ : ∃ W2, w1.alloc (.cells #[.int .u8 (r.1 : Int), .slice A1 r.2.length c1] 43) = W2 := ⟨_, rfl⟩
        have hb2 : Below w'.heap.size w' W2 := by rw [← hW2]; exact HB1.out.alloc HB1.out.size _
        have hbt : Whole W2 w1.heap.size 43 #[.int .u8 (r.1 : Int), .slice A1 r.2.length c1] := by rw [← hW2]; exact Whole.new w1 _ _
        have ho2 : W2.ownsRow base 3 1 (.slice A1 r.2.length c1) r.2.length (iv r.2) := by
          rw [← hW2]; exact own_weaker (HO1.out.alloc _) (by have := Hb.out; omega)
        rw [hW2]
        clear hW2
        have hbs2 : Whole W2 Bs 71 #[.slice (some ⟨b, off, none⟩) ps.length c] := HI.out.box.under hb2
        have hrows2 : RowsAt base W2 (.slice (some ⟨b, off, none⟩) ps.length c) ps := HI.out.rows.under hb2
        have hJ2 : J pre W2 := HJ.out pre w' _ none HI.out.inv ⟨hb2.os, hb2.tape, hb2.output, hb2.size, fun i hi _ => hb2.block i hi⟩ (fun r e => by cases e)
        have hs2 := hb2.size
        have hq2 := (hb2.cell (p := ⟨b, off + pre.length, none⟩) HBlt.out).trans HQ.out
        have HJ2 := Lib.hid hJ2
        have HRows2 := Lib.hid hrows2
        have HBs2 := Lib.hid hbs2
        have HO2 := Lib.hid ho2
        have HX := Lib.hid hx
        clear hJ2 ho2 hb2
        refine lr_region rfl (by kernel_rfl) ⟨_, rfl, rfl, rfl, rfl, by kernel_rfl⟩ ⟨_, rfl, rfl, rfl, rfl, by kernel_rfl⟩ ⟨_, rfl, rfl, rfl, rfl, by kernel_rfl⟩ ⟨_, rfl, rfl, rfl, rfl, by kernel_rfl⟩ ⟨_, rfl, rfl, rfl, rfl, by kernel_rfl⟩ ⟨_, rfl, rfl, rfl, rfl, by kernel_rfl⟩ ⟨_, rfl, rfl, rfl, rfl, by kernel_rfl⟩ ⟨_, rfl, rfl, rfl, rfl, by kernel_rfl⟩ ⟨_, rfl, rfl, rfl, rfl, by kernel_rfl⟩ ⟨_, rfl, rfl, rfl, rfl, by kernel_rfl⟩ ⟨_, rfl, rfl, rfl, rfl, by kernel_rfl⟩ ⟨_, rfl, rfl, rfl, rfl, by kernel_rfl⟩ ⟨_, rfl, rfl, rfl, rfl, by kernel_rfl⟩ ⟨_, rfl, rfl, rfl, rfl, by kernel_rfl⟩ _ ?ds W2 w1.heap.size Bs r.1 A1 r.2.length c1 b off ps.length c pre.length Aq nq cq (frLen nq)
          (fun t w => (t = true ∧ J (pre ++ [x]) w ∧ RowsAt base w (.slice (some ⟨b, off, none⟩) ps.length c) ps ∧ Whole w Bs 71 #[.slice (some ⟨b, off, none⟩) ps.length c] ∧ W2.heap.size ≤ w.heap.size) ∨ (t = false ∧ Jx w))
          rfl rfl rfl rfl rfl hbt hbs2 hlt (by have := HBlt.out; omega) hq2 ?long ?yields ?fin
        case ds =>
          intro d hd
          simp only [List.mem_cons, List.not_mem_nil, or_false] at hd
          rcases hd with rfl | rfl | rfl | rfl | rfl | rfl | rfl | rfl | rfl | rfl | rfl | rfl | rfl | rfl <;> simp
        case long =>
          intro w
          refine (frLong_any _ w).mono ?_
          rintro e w3 ⟨rfl, hb3⟩
          refine ⟨?_, hb3⟩
          rw [longOf, if_pos (by omega)]
          simp
        case yields =>
          intro w hw
          have hJw : J pre w := HJ.out pre W2 w none HJ2.out ⟨hw.os, hw.tape, hw.output, hw.size, fun i hi _ => hw.block i hi⟩ (fun r e => by cases e)
          have h1 := HY.out pre x w hJw ⟨r, HRr.out, by rw [HX.out], by rw [HX.out], by rw [HX.out, ← HLong.out], HOkr.out, by rw [HX.out]; exact own_under HO2.out hw⟩
          rw [show x.vals = #[.agg #[.int .u8 (r.1 : Int), .slice A1 r.2.length c1], .int .i64 (frLen nq : Int)] by rw [HX.out]; rfl] at h1
          refine h1.mono ?_
          rintro e w3 (⟨rfl, h2, h3⟩ | ⟨rfl, h2⟩)
          · exact ⟨true, rfl, .inl ⟨rfl, h2, h3.1 (HRows2.out.under hw), h3.2.1.trans (HBs2.out.under hw), Nat.le_trans hw.size h3.2.2⟩⟩
          · exact ⟨false, rfl, .inr ⟨rfl, h2⟩⟩
        case fin =>
          rintro σ W3 t hσ h
          simp only [lay, List.foldl_cons, List.foldl_nil, Act.put, List.setIfInBounds_toArray, List.set_cons_zero, List.set_cons_succ, hσ]
          clear hσ hbt hbs2 hrows2 hq2
          rcases h with ⟨rfl, h2, h3, h4, h5⟩ | ⟨rfl, h2⟩
          · have HJ3 := Lib.hid h2
            have HR3 := Lib.hid h3
            have HB3 := Lib.hid h4
            clear h2 h3 h4
            simp only [Bool.not_true]
            gi_wp2_with fail
            refine wpIn_goto ?_
            have e1 : (pre.length : Int) + 1 = ((pre ++ [x]).length : Int) := by rw [List.length_append, List.length_singleton]; omega
            refine ⟨rfl, ⟨by omega, pre ++ [x], _, _, _, _, _, _, _, _, _, _, _, _, _, _, _, _, _, _, _, _, _, _, _, _, _, _, _, _, _, _, by rw [← e1], ⟨by rw [List.length_append, List.length_singleton]; omega, HB3.out, HR3.out, HJ3.out⟩⟩, ?_⟩
            simp [intOf]; omega
          · have HJx := Lib.hid h2
            clear h2
            simp only [Bool.not_false]
            gi_wp2_with fail
            simp only [Exit.jump]
            refine bodyPost_ret (results_none rfl _ _ _) rfl ?_
            exact ⟨⟨_, rfl⟩, .inr HJx.out⟩
      · have hE : pre.length = L.length := by omega
        have htk : takenRec bq = none := HL.out.2.2 _ (by rw [← hE]; exact HPS.out)
        have HT := Lib.hid (takeRec_is Aq nq cq bq w'.heap.size w' HYR.out (Nat.le_refl _) HYB.out (by omega) HYc.out htk)
        have HE := Lib.hid hE
        clear hE htk
        gi_wp2_with fail
        refine ⟨trivial, fun h => (by cases h), (callsIn_wide.2 HT.out).mono ?_⟩
        rintro e w1 ⟨rfl, hb1⟩
        have HB1 := Lib.hid hb1
        clear hb1 HT
        gi_wp2_with fail
        refine wpIn_wide.2 ?_
        go_quiet (fail)
        gi_wp2_with fail
        simp only [Exit.jump]
        refine bodyPost_ret (results_none rfl _ _ _) rfl ?_
        have hb2 := HB1.out.alloc HB1.out.size (.cells #[.int .u8 0, .slice none 0 0] 43)
        have hJ2 : J pre (w1.alloc (.cells #[.int .u8 0, .slice none 0 0] 43)) := HJ.out pre w' _ none HI.out.inv ⟨hb2.os, hb2.tape, hb2.output, hb2.size, fun i hi _ => hb2.block i hi⟩ (fun r e => by cases e)
        exact ⟨⟨_, rfl⟩, .inl ⟨pre, HE.out, HJ.out pre _ _ none hJ2 ⟨rfl, rfl, rfl, Nat.le_refl _, fun _ _ _ => rfl⟩ (fun r e => by cases e)⟩⟩

theorem records_mem (m base Bs : Nat) (v : Value) (ps : List (List Nat)) (L : List PR) (hps : ps.length ≤ 1000000) (hpb : ∀ x ∈ ps, ∀ y ∈ x, y < 256) (hp4 : ∀ p ∈ ps, p.length ≤ 4000) (hok : ∀ r ∈ L, okR r)
    (hL : (∀ (j : Nat) (r : PR), L[j]? = some r → ps[j]? = some (pl r)) ∧ L.length ≤ ps.length ∧ ∀ p, ps[L.length]? = some p → takenRec p = none) (w : World)
    (hBs : Whole w Bs 71 #[v]) (hb : base ≤ w.heap.size) (hrows : RowsAt base w v ps) :
    SeqMem m Try.prog 41 #[.pointer (some ⟨Bs, 0, none⟩)] LR.vals (LR.Ok base L) (KpR base Bs v ps) (fun ys => ys.length = L.length) w := fun l J Jx W hW hJ hY h0 =>
  records1_in m l base Bs v ps L hps hpb hp4 hok hL J Jx W hJ hY (hBs.under hW) (Nat.le_trans hb hW.size) (hrows.under hW) h0

/-! ### Scan -/
theorem RecsAt.set {base : Nat} {w : World} {v : Value} {L : List PR} (h : RecsAt base w v L) {b off : Nat} (hb : b < base) (u : Value) : RecsAt base (w.setCell ⟨b, off, none⟩ u) v L := by
  obtain ⟨es, h1, h2, h3⟩ := h
  exact ⟨es, own_set h1 hb u, h2, fun x hx => ⟨(h3 x hx).1, own_set (h3 x hx).2 hb u⟩⟩
theorem RowsAt.set {base : Nat} {w : World} {v : Value} {l : List (List Nat)} (h : RowsAt base w v l) {b off : Nat} (hb : b < base) (u : Value) : RowsAt base (w.setCell ⟨b, off, none⟩ u) v l := by
  obtain ⟨es, h1, h2, h3⟩ := h
  exact ⟨es, own_set h1 hb u, h2, fun x hx => own_set (h3 x hx) hb u⟩
theorem RowsAt.grown_rec {base base' : Nat} {w w' : World} {v u : Value} {l : List (List Nat)} {L : List PR} (h : RowsAt base w v l) (hu : RecsAt base' w u L) (hg : w.grownBy w' u.ownBlock) : RowsAt base w' v l := by
  obtain ⟨es, h1, h2, h3⟩ := h
  obtain ⟨fs, g1, _⟩ := hu
  exact ⟨es, own_kept_ofR (by decide) g1 h1 hg, h2, fun x hx => own_kept_ofR (by decide) g1 (h3 x hx) hg⟩
theorem RecsAt.keeps {base : Nat} {w w' : World} {v : Value} {L : List PR} (h : RecsAt base w v L) (hg : w.grownBy w' v.ownBlock) : KeepsOthers w w' := by
  obtain ⟨es, h1, _⟩ := h
  exact keeps_row h1 hg
theorem pr_take {L : List PR} {j : Nat} {r : PR} (hr : L[j]? = some r) : L.take (j + 1) = L.take j ++ [r] := by
  have hjl : j < L.length := (List.getElem?_eq_some_iff.1 hr).1
  rw [List.take_succ_eq_append_getElem hjl]
  rw [List.getElem?_eq_getElem hjl] at hr
  rw [Option.some.inj hr]

/-- What holds between two rounds. -/
structure ScanAt (w : World) (Bs : Nat) (vb : Value) (L : List PR) (pre : List LR) (W : World) : Prop where
  res : ∃ v, Whole W w.heap.size 25 #[v] ∧ RecsAt (w.heap.size + 2) W v (L.take pre.length)
  used : Whole W (w.heap.size + 1) 3 #[.int .i64 ((lbytes (L.take pre.length)).length : Int)]
  below : Below w.heap.size w W
  size : w.heap.size + 2 ≤ W.heap.size
  bs : Whole W Bs 71 #[vb]
theorem scanAt_own (w : World) (Bs : Nat) (vb : Value) (L : List PR) (B : Nat) (hB : w.heap.size ≤ B) : OwnFrom B (ScanAt w Bs vb L) := by
  intro pre W1 W2 row h hg hr
  have hr' : ∀ r, row = some r → ∃ o : Obj, W1.heap[r]? = some o ∧ o.isCells = false := fun r e => (hr r e).2
  obtain ⟨v, h1, h2⟩ := h.res
  exact ⟨⟨v, h1.turn hg hr', h2.turn hg hr'⟩, h.used.turn hg hr', h.below.grown hg h.below.size (fun k e => by have := (hr k e).1; omega), Nat.le_trans h.size hg.size, h.bs.turn hg hr'⟩

/-- The records, and how many bytes they have. -/
def ScanIs (L : List PR) (u : Nat) (w : World) (e : Ending) (w' : World) : Prop :=
  ∃ A c, e = .returned (.tuple #[.slice A L.length c, .int .i64 (u : Int)]) ∧ RecsAt w.heap.size w' (.slice A L.length c) L ∧ Below w.heap.size w w'

set_option maxRecDepth 100000 in
set_option maxHeartbeats 1000000 in
theorem scan_any (A : Option Addr) (n c : Nat) (bs : List Nat) (L : List PR) (u : Nat) (B : Nat) (w : World) (hlog : LogIs bs L u) (hr : Rd w B A n (bv bs)) (hB : B ≤ w.heap.size) (hb : ∀ x ∈ bs, x < 256) (hn : n ≤ 1000000) (hc : n ≤ c) :
    Calls Try.prog 10 #[.slice A n c] w (ScanIs L u w) := by
  obtain ⟨ps, used, hall⟩ := all_ex _ bs (Nat.le_refl _)
  have hla := log_all hlog hall hb
  have hbl : bs.length = n := by have := hr.1; rwa [bv_length] at this
  have hps : ps.length ≤ 200000 := by
    have h1 := usedOf_ge ps
    have h4 := congrArg List.length hall.1
    rw [List.length_append] at h4
    unfold usedOf at h1
    omega
  have hLl : L.length ≤ 200000 := Nat.le_trans hla.2.1 hps
  have hpb : ∀ x ∈ ps, ∀ y ∈ x, y < 256 := fun x hx y hy => by
    refine hb y ?_
    have h1 := hall.1
    rw [h1]
    refine List.mem_append_left _ (List.mem_flatMap.2 ⟨x, hx, ?_⟩)
    unfold fr
    simp [hy]
  have HLa := Lib.hid hla
  have HPB := Lib.hid hpb
  have HAll := Lib.hid hall
  have HLog := Lib.hid hlog
  have HR := Lib.hid (hr.more hB)
  have HBy := Lib.hid hb
  clear hla hpb hall hlog hr hB hb
  refine (callsIn_wide (n := 6)).1 ?_
  refine callsIn_of_wp_marks Try.func10 rfl trivial ?_ rfl
  simp only [Try.ntmps10, List.size_toArray, List.length_cons, List.length_nil, Nat.reduceAdd, Nat.reduceSub, Array.replicate_succ, Array.replicate_zero, List.push_toArray, List.append_toArray, List.nil_append, List.cons_append]
  have hbW : Below w.heap.size w ((w.alloc (.cells #[.slice none 0 0] 25)).alloc (.cells #[.int .i64 0] 3)) := ((Below.refl _ w).alloc (Nat.le_refl _) _).alloc (by simp) _
  have HRcs := Lib.hid (records_any A n c bs ps used w.heap.size _ HAll.out (HR.out.below hbW) hbW.size HBy.out hn hc)
  have HBW := Lib.hid hbW
  clear hbW
  gi_wp2_with (refine ⟨trivial, ?_⟩; gi_at_call 29; refine (callsIn_wide.2 HRcs.out).mono ?_; rintro e W0 ⟨Bs, v, rfl, hBs, hbox, hrows, hb0⟩)
  have hsb : ((w.alloc (.cells #[.slice none 0 0] 25)).alloc (.cells #[.int .i64 0] 3)).heap.size = w.heap.size + 2 := by simp
  have hinv : ScanAt w Bs v L [] W0 := by
    refine ⟨⟨.slice none 0 0, ?_, RecsAt.nil_ _ _⟩, ?_, HBW.out.trans (hb0.mono HBW.out.size), by have := hb0.size; omega, hbox⟩
    · exact ((Whole.new w 25 #[.slice none 0 0]).alloc _).under hb0
    · have h1 := (Whole.new (w.alloc (.cells #[.slice none 0 0] 25)) 3 #[.int .i64 0]).under hb0
      rw [World.size_alloc] at h1
      exact h1
  rw [hsb] at hBs hrows
  have hs0 : w.heap.size + 2 ≤ W0.heap.size := hinv.size
  clear HRcs hb0 hsb
  refine wpIn_range_mem (by omega) (gf := 41) (lb := #[.pointer (some ⟨Bs, 0, none⟩)]) rfl (enters_of Try.func41 (by kernel_rfl) rfl) (encs := fun x : LR => #[.agg #[.int .u8 (x.k : Int), .slice x.A x.n x.c], .int .i64 (x.long : Int)])
    (records_mem 5 (w.heap.size + 2) Bs v ps L (by omega) HPB.out HAll.out.2.2.1 HLog.out.ok HLa.out W0 hbox hs0 hrows)
    (fun h k => kpR_t h k) (kpR_b hbox.lt) (Below.refl _ _) (fun _ => rfl)
    (ScanAt w Bs v L) (fun _ _ => False)
    (scanAt_own _ _ _ _ _ (by omega)) (fun _ _ _ _ h _ _ => h) hinv
    (fun pre x a' W => LR.Ok (w.heap.size + 2) L pre x W ∧ ∃ Bx, Bs < Bx ∧ w.heap.size + 2 ≤ Bx ∧ Whole W Bx 43 #[.int .u8 (x.k : Int), .slice x.A x.n x.c] ∧
      a' = { tmps := #[.slice A n c, undef, .pointer (some ⟨w.heap.size, 0, none⟩), .pointer (some ⟨w.heap.size + 1, 0, none⟩), .pointer (some ⟨Bx, 0, none⟩), .int .i64 (x.long : Int), .slice A n c, .func (.func 41) #[] #[.pointer (some ⟨Bs, 0, none⟩)], .agg #[.int .u8 (x.k : Int), .slice x.A x.n x.c], .int .i64 (x.long : Int), undef, undef, undef, undef, undef, undef, undef, undef, undef], defers := [] })
    (fun a' p X Y row hs hg hr => by
      obtain ⟨⟨r, h1, h2⟩, Bx, g1, g2, g3, g4⟩ := hs
      exact ⟨⟨r, h1, h2.turn hg (fun r e => (hr r e).2)⟩, Bx, g1, g2, g3.turn hg (fun r e => (hr r e).2), g4⟩) ?assign ?body ?done ?stop
  case assign =>
    intro l pre x W K hI hOk hK
    obtain ⟨r, h1, h2⟩ := hOk
    have hbA : ∀ o : Obj, Below W.heap.size W (W.alloc o) := fun o => (Below.refl _ W).alloc (Nat.le_refl _) o
    have hA : ∀ o : Obj, ScanAt w Bs v L pre (W.alloc o) := fun o => by
      obtain ⟨v', q1, q2⟩ := hI.res
      exact ⟨⟨v', q1.alloc _, q2.under (hbA o)⟩, hI.used.alloc _, hI.below.alloc hI.below.size _, by have := hI.size; simp; omega, hI.bs.alloc _⟩
    gi_wp2
    exact hK _ _ ((KeepsOthers.alloc _ _).from _) (kpR_under hI.bs.lt (hbA _)) (hA _) ⟨⟨r, h1, h2.under (hbA _)⟩, W.heap.size, hI.bs.lt, hI.size, Whole.new W _ _, rfl⟩
  case body =>
    rintro l pre x a' W hl hI ⟨⟨r, hr, hF⟩, Bx, hBx, hBx2, hX, rfl⟩
    obtain ⟨v', hv, hrecs⟩ := hI.res
    obtain ⟨Av, cv, rfl⟩ := hrecs.form
    have hjl : pre.length < L.length := (List.getElem?_eq_some_iff.1 hr).1
    have htl : (L.take pre.length).length = pre.length := by rw [List.length_take]; omega
    rw [htl] at hv hrecs
    have hb1 : Below W.heap.size W (W.alloc (.cells #[.int .u8 (x.k : Int), .slice x.A x.n x.c] 43)) := (Below.refl _ W).alloc (Nat.le_refl _) _
    have hlit := Whole.new W 43 #[.int .u8 (x.k : Int), .slice x.A x.n x.c]
    have hrecs1 := hrecs.under hb1
    have hmk := (mayB_kind hF.ok).2
    rw [← hF.kind] at hmk
    obtain ⟨A2, c2, w2, hrun, hrecs2, hg2, hT2, hbel2⟩ := recs_app (W.alloc (.cells #[.int .u8 (x.k : Int), .slice x.A x.n x.c] 43)) (w.heap.size + 2) _ _ hrecs1 W.heap.size x.k x.A x.n x.c r.2 (by omega) (hlit.cell 0) (hlit.cell 1) (by have := (own_under hF.own hb1); exact this) (by omega) (by have := hI.size; simp; omega)
    rw [htl] at hrun hrecs2
    have hsnoc : L.take pre.length ++ [(x.k, r.2)] = L.take (pre.length + 1) := by rw [pr_take hr, hF.kind]
    rw [hsnoc] at hrecs2
    have hv2 := hT2 _ _ _ (hv.alloc (.cells #[.int .u8 (x.k : Int), .slice x.A x.n x.c] 43)) (by decide)
    have hu2 := hT2 _ _ _ (hI.used.alloc (.cells #[.int .u8 (x.k : Int), .slice x.A x.n x.c] 43)) (by decide)
    have hlen : (pre ++ [x]).length = pre.length + 1 := by simp
    obtain ⟨U, hU⟩ : ∃ U, (lbytes (L.take pre.length)).length = U := ⟨_, rfl⟩
    have hUb : U ≤ 306 * 200000 := by
      have h1 := lbytes_le (L := L.take pre.length) (fun s hs => HLog.out.ok s (List.mem_of_mem_take hs))
      rw [htl] at h1
      omega
    have hU1 : (U : Int) + (x.long : Int) = (((lbytes (L.take (pre.length + 1))).length : Nat) : Int) := by rw [lbytes_take hr, List.length_append, hU, hF.long]; omega
    have hxl : x.long ≤ 306 := by rw [hF.long]; exact lfr_len hF.ok
    rw [hU] at hu2
    have v0 := hv.cell 0
    have x0 := hX.cell 0
    have x1 := hX.cell 1
    have v2 := hv2.cell 0
    have vf := hv2.frozen 0
    have u2 := hu2.cell 0
    have uf := hu2.frozen 0
    simp only [List.getElem?_toArray, List.getElem?_cons_zero, List.getElem?_cons_succ] at v0 x0 x1 v2 u2
    have HRun := Lib.hid hrun
    have HI := Lib.hid hI
    have HRecs1 := Lib.hid hrecs1
    have HRecs2 := Lib.hid hrecs2
    have HG2 := Lib.hid hg2
    have HT2 := Lib.hid (hT2 Bs _ _ (hI.bs.alloc (.cells #[.int .u8 (x.k : Int), .slice x.A x.n x.c] 43)) (by decide))
    have HBel := Lib.hid hbel2
    have HV2 := Lib.hid hv2
    have HU2 := Lib.hid hu2
    have HU1 := Lib.hid hU1
    have HHl := Lib.hid hl
    have HB1 := Lib.hid hb1
    have HU := Lib.hid hU
    clear hrun hI hrecs1 hrecs2 hg2 hT2 hbel2 hv2 hu2 hU1 hU hv hrecs hlit hX hF hr hsnoc hl htl hb1
    gi_wp2_with (gi_at_builtin; refine wpListIn_app rfl _ _ _ rfl _ _ _ _ rfl rfl HRun.out ?_; clear HRun)
    have hsz := HI.out.size
    have hbl := HI.out.bs.lt
    have hs2 := HBel.out.size
    have hs1 := HB1.out.size
    have hg := HG2.out.size
    have hBne : Bs ≠ w.heap.size ∧ Bs ≠ w.heap.size + 1 := by omega
    have hb4 : Below w.heap.size W w2 := (HB1.out.mono (by omega)).trans (HBel.out.mono (by omega))
    have hfin := HT2.out.trans (HI.out.bs.symm)
    rw [HU1.out]
    refine ⟨((KeepsOthers.alloc W _).trans ((HRecs1.out.keeps HG2.out).trans ((KeepsOthers.setCell _ _ _).trans (KeepsOthers.setCell _ _ _)))).from _, ⟨fun g => ?_, ?_, ?_⟩, ?_⟩
    · exact (((g.under HB1.out).grown_rec HRecs1.out HG2.out).set (by omega) _).set (by omega) _
    · exact ((Below.heap_setCell _ ⟨w.heap.size + 1, 0, none⟩ _ _ hBne.2).trans (Below.heap_setCell w2 ⟨w.heap.size, 0, none⟩ _ _ hBne.1)).trans hfin
    · simp only [World.size_alloc] at hg
      simp [World.setCell]; omega
    · have hw3 := (HV2.out.set 0 (.slice A2 (pre.length + 1) c2)).far (p := ⟨w.heap.size + 1, 0, none⟩) (by simp) (.int .i64 ((lbytes (L.take (pre.length + 1))).length : Int))
      have hw4 := (HU2.out.far (p := ⟨w.heap.size, 0, none⟩) (by simp) (.slice A2 (pre.length + 1) c2)).set 0 (.int .i64 ((lbytes (L.take (pre.length + 1))).length : Int))
      simp only [List.setIfInBounds_toArray, List.set_cons_zero] at hw3 hw4
      refine ⟨⟨_, hw3, ?_⟩, by rw [hlen]; exact hw4, ((HI.out.below.trans hb4).setCell (p := ⟨w.heap.size, 0, none⟩) (Nat.le_refl _) _).setCell (p := ⟨w.heap.size + 1, 0, none⟩) (by simp) _, ?_, ?_⟩
      · rw [hlen]; exact (HRecs2.out.set (by omega) _).set (by omega) _
      · simp only [World.size_alloc] at hg
        simp [World.setCell]; omega
      · exact (HT2.out.far (p := ⟨w.heap.size, 0, none⟩) hBne.1 _).far (p := ⟨w.heap.size + 1, 0, none⟩) hBne.2 _
  case done =>
    rintro D ys W1 hD hys hI hK
    have hl1 : L.take ys.length = L := by rw [List.take_of_length_le]; rw [hys]; exact Nat.le_refl _
    obtain ⟨v1, hv, hrecs⟩ := hI.res
    have hu := hI.used
    rw [hl1] at hrecs hu
    obtain ⟨Av, cv, rfl⟩ := hrecs.form
    rw [← HLog.out.used] at hu
    have v0 := hv.cell 0
    have vf := hv.frozen 0
    have u0 := hu.cell 0
    have uf := hu.frozen 0
    simp only [List.getElem?_toArray, List.getElem?_cons_zero] at v0 u0
    have HV := Lib.hid hv
    have HU := Lib.hid hu
    have HRecs := Lib.hid hrecs
    have HI := Lib.hid hI
    have HK := Lib.hid hK
    have E2 := Lib.hid (hv.set_same 0 (.slice Av L.length cv) rfl)
    have E3 := Lib.hid (hu.set_same 0 (.int .i64 (u : Int)) rfl)
    have hmix : Try.prog.follows .mixedOrders = true := by kernel_rfl
    clear hv hu hrecs hI hK hys hl1
    gi_wp2_with fail
    gi_region_with_o (fail)
    all_goals gi_wp2
    all_goals
      rw [E2.out, E3.out]
      have hK1 : W1.drew.heap[D]? = some (.deferred (some [])) := HK.out
      have hg' := grownBy_putObj' W1.drew D (.deferred none)
      have hr' : ∀ r, (some D) = some r → ∃ o : Obj, W1.drew.heap[r]? = some o ∧ o.isCells = false := fun r e => by cases e; exact ⟨_, hK1, rfl⟩
      have q2 := (Whole.turn (W := W1.drew) HV.out hg' hr').cell 0
      have q3 := (Whole.turn (W := W1.drew) HU.out hg' hr').cell 0
      simp only [List.getElem?_toArray, List.getElem?_cons_zero] at q2 q3
      refine ⟨by simp, .inl ⟨_, _, rfl, run_takeDeferred hK1, ?_⟩⟩
      refine ⟨.tuple #[.slice Av L.length cv, .int .i64 (u : Int)], by simp [results, Try.results10, go_sem, q2, q3], Av, cv, rfl, ?_, ?_⟩
      · exact ((HRecs.out.under (Below.refl _ W1).drew).turn hg' hr').weaker (by omega)
      · exact HI.out.below.drew.trans ((Below.refl _ _).grown hg' HI.out.below.size (fun k e => by cases e; omega))
  case stop =>
    rintro D c W hD h hK
    exact h.elim

end Go.Proofs.Ytbkfpghpfaemeaa

/-
  The walk of the document's own 'Scan' of logs. Conditions: those that each theorem names.
-/
namespace Go.Proofs.Ytbkfpghpfaemeaa
open Go.RowKit Go.Shelf

theorem refTakeFr_yes {A : Option Addr} {n c : Nat} {bs p r : List Nat} {B : Nat} {w : World} (hp : IsFr bs p) (hrest : bs.drop (frLen p.length) = r) (hr : Rd w B A n (bv bs)) (hB : B ≤ w.heap.size) (hb : ∀ x ∈ bs, x < 256) (hn : n ≤ 1000000) (hc : n ≤ c) :
    Calls Try.prog 30 #[.slice A n c] w (TakeYes p r w) := by
  refine (refFrTake_any A n c bs B w hr hB hb hn hc).mono ?_
  rintro e w' (⟨q, hq, h⟩ | ⟨h, _⟩)
  · obtain rfl := isFr_one hp hq
    rw [hrest] at h; exact h
  · exact absurd hp (h p)
theorem refTakeFr_no {A : Option Addr} {n c : Nat} {bs : List Nat} {B : Nat} {w : World} (hp : ∀ p, ¬ IsFr bs p) (hr : Rd w B A n (bv bs)) (hB : B ≤ w.heap.size) (hb : ∀ x ∈ bs, x < 256) (hn : n ≤ 1000000) (hc : n ≤ c) :
    Calls Try.prog 30 #[.slice A n c] w (TakeNo w) := by
  refine (refFrTake_any A n c bs B w hr hB hb hn hc).mono ?_
  rintro e w' (⟨q, hq, _⟩ | ⟨_, h⟩)
  · exact absurd hq (hp q)
  · exact h
theorem isFr_bytes {bs p : List Nat} (h : IsFr bs p) (hb : ∀ x ∈ bs, x < 256) : ∀ x ∈ p, x < 256 := fun x hx => hb x (h.2.subset (by unfold fr; simp [hx]))

set_option maxRecDepth 100000 in
set_option maxHeartbeats 1000000 in
theorem refScan_any (A : Option Addr) (n c : Nat) (bs : List Nat) (L : List PR) (u : Nat) (B : Nat) (w : World) (hlog : LogIs bs L u) (hr : Rd w B A n (bv bs)) (hB : B ≤ w.heap.size) (hb : ∀ x ∈ bs, x < 256) (hn : n ≤ 1000000) (hc : n ≤ c) :
    Calls Try.prog 11 #[.slice A n c] w (ScanIs L u w) := by
  have hl : bs.length = n := by have := hr.1; rwa [bv_length] at this
  have hL : L.length ≤ 200000 := by
    have h1 := lbytes_ge L
    have h2 := hlog.le
    rw [hlog.used] at h2
    omega
  have HLog := Lib.hid hlog
  have HR := Lib.hid (hr.more hB)
  have HBy := Lib.hid hb
  have HL := Lib.hid hl
  clear hlog hr hB hb hl
  go_enter Try.func11, Try.ntmps11
  go_wp2_with fail
  go_loopw [4, 5] (fun v i wr => ∃ (pre rest : List PR) (k : Nat), pre ++ rest = L ∧ i = .int .i64 (k : Int) ∧ k = (lbytes pre).length ∧ k ≤ n ∧ RecsAt w.heap.size wr v pre ∧ Below w.heap.size w wr) (fun _ i _ => n - (intOf i).toNat)
  case atStart => exact ⟨[], L, 0, rfl, rfl, rfl, Nat.zero_le _, RecsAt.nil_ _ _, Below.refl _ _⟩
  case round =>
    obtain ⟨pre, rest, k, hpr, rfl, hku, hk, hrows, hbel⟩ := hrel
    obtain ⟨A', hA1, hA2⟩ := run_rest A n c k hk
    have hrd : Rd wr w.heap.size A' (n - k) (bv (bs.drop k)) := by
      have h2 := (HR.out.below hbel).cut hk A' (fun h => hA2 ⟨h, hc⟩)
      rwa [bv, ← List.map_drop] at h2
    have hbb : ∀ x ∈ bs.drop k, x < 256 := fun x hx => HBy.out x (List.mem_of_mem_drop hx)
    have hpl : pre.length ≤ 200000 := by rw [← hpr, List.length_append] at hL; omega
    have HBel := Lib.hid hbel
    have HRows := Lib.hid hrows
    obtain ⟨Av, cv, rfl⟩ := hrows.form
    cases rest with
    | nil =>
      rw [List.append_nil] at hpr
      subst hpr
      have hu : k = u := by rw [hku]; exact HLog.out.used.symm
      subst hu
      by_cases hfr : ∃ p, IsFr (bs.drop k) p
      · obtain ⟨p, hp⟩ := hfr
        have hpb := isFr_bytes hp hbb
        have htk : takenRec p = none := by
          cases hv : takenRec p with
          | none => rfl
          | some x => exact absurd (isRec_yes hp hpb (k := x.1) (l := x.2) hv) (HLog.out.no _)
        have hp4 := hp.1
        have HT := Lib.hid (refTakeFr_yes hp rfl hrd hbel.size hbb (by omega) (by omega : n - k ≤ c - k))
        have HTk := Lib.hid htk
        have HPb := Lib.hid hpb
        clear hrd hbb hA2 hbel hrows hku hp hpb htk
        go_wp2_with fail
        refine (HT.out).mono ?_
        rintro e w1 ⟨A1, c1, A2, c2, rfl, o1, _, d1⟩
        have HT2 := Lib.hid (refTakeRec_is A1 p.length c1 p w1.heap.size w1 (Rd.of_own o1) (Nat.le_refl _) HPb.out (by omega) (own_cap o1) HTk.out)
        have HD1 := Lib.hid d1
        clear o1 d1 HT
        go_wp2_with fail
        refine (HT2.out).mono ?_
        rintro e w2 ⟨rfl, d2⟩
        have hb3 := (d2.mono HD1.out.size)
        have HD2 := Lib.hid ((HD1.out.trans hb3).alloc (HD1.out.trans hb3).size (.cells #[.int .u8 0, .slice none 0 0] 43))
        clear d2 hb3
        go_wp2_with fail
        go_ret2
        exact ⟨Av, cv, rfl, HRows.out.under HD2.out, HBel.out.trans (HD2.out.mono HBel.out.size)⟩
      · have HT := Lib.hid (refTakeFr_no (fun p hp => hfr ⟨p, hp⟩) hrd hbel.size hbb (by omega) (by omega : n - k ≤ c - k))
        clear hrd hbb hA2 hbel hrows hku hfr
        go_wp2_with fail
        refine (HT.out).mono ?_
        rintro e w1 ⟨rfl, d1⟩
        go_wp2_with fail
        go_ret2
        exact ⟨Av, cv, rfl, HRows.out.under d1, HBel.out.trans (d1.mono HBel.out.size)⟩
    | cons r rest =>
      have hrec : IsRec (bs.drop k) r := by
        have h1 := HLog.out
        rw [← hpr] at h1
        have h2 := h1.next
        rw [hku]; exact h2
      have hp := hrec.1
      have hok := hrec.2
      have hple := hp.le
      rw [List.length_drop, HL.out] at hple
      have hp3 := pl_len2 hok
      obtain ⟨p, hpp⟩ : ∃ p, pl r = p := ⟨_, rfl⟩
      have htk : takenRec p = some (r.1, nats r.2) := by
        have := taken_recB hok []
        rw [List.append_nil, if_pos rfl] at this
        rw [← hpp]; exact this
      have hflen : frLen p.length = (lfr r).length := by unfold lfr; rw [fr_length, hpp]
      rw [hpp] at hp hple hp3
      obtain ⟨F, hF⟩ : ∃ F, frLen p.length = F := ⟨_, rfl⟩
      have hF5 : 5 ≤ F := by rw [← hF]; exact frLen_pos _
      obtain ⟨rr, hrr⟩ : ∃ rr, (bs.drop k).drop (frLen p.length) = rr := ⟨_, rfl⟩
      have hrl : rr.length = n - k - F := by rw [← hrr, List.length_drop, List.length_drop, HL.out, hF]
      have hpb := isFr_bytes hp hbb
      have hT := refTakeFr_yes hp hrr hrd hbel.size hbb (by omega) (by omega : n - k ≤ c - k)
      unfold TakeYes at hT
      obtain ⟨M, hM⟩ : ∃ M, rr.length = M := ⟨_, rfl⟩
      rw [hM] at hT hrl
      rw [hF] at hple
      have hat : (n : Int) - (M : Int) = ((k + F : Nat) : Int) := by omega
      have hMn : (M : Int) ≤ (n : Int) := by omega
      have hrk : r.1 < 17 := (mayB_kind hok).2
      have hrn : r.2.length ≤ 100 := by have h1 := (mayB_yes hok).2.1; have h2 := (hi_le r.1).1; omega
      have HT := Lib.hid hT
      have HP := Lib.hid hpr
      have HKU := Lib.hid hku
      have HF := Lib.hid (hF.symm.trans hflen)
      have HTk := Lib.hid htk
      have HPb := Lib.hid hpb
      have HOk := Lib.hid hok
      clear hrd hbb hA2 hbel hrows hku hpr hT hp hrr hM hF hrl hrec hok hpp htk hflen hpb
      go_wp2_with fail
      refine (HT.out).mono ?_
      rintro e w1 ⟨A1, c1, A2, c2, rfl, o1, _, d1⟩
      have HT2 : Hid (Calls Try.prog 31 #[.slice A1 p.length c1] w1 (YesRec r.1 r.2 w1)) :=
        (refTakeRec_is A1 p.length c1 p w1.heap.size w1 (Rd.of_own o1) (Nat.le_refl _) HPb.out (by omega) (own_cap o1) HTk.out).mono fun e w'' h => by
          have h2 : YesRec r.1 (ints (nats r.2)) w1 e w'' := h
          rwa [ints_nats HOk.out] at h2
      have HD1 := Lib.hid d1
      clear o1 d1 HT
      go_wp2_with fail
      refine (HT2.out).mono ?_
      rintro e w2 ⟨A3, c3, rfl, o3, d3⟩
      have hb1 := HBel.out.trans ((HD1.out.trans (d3.mono HD1.out.size)).mono HBel.out.size)
      have hbA := hb1.alloc hb1.size (.cells #[.int .u8 (r.1 : Int), .slice A3 r.2.length c3] 43)
      have hbB := hbA.alloc hbA.size (.cells #[.int .u8 (r.1 : Int), .slice A3 r.2.length c3] 43)
      have hd := HD1.out.trans (d3.mono HD1.out.size)
      have hdA := hd.alloc hd.size (.cells #[.int .u8 (r.1 : Int), .slice A3 r.2.length c3] 43)
      have hdB := hdA.alloc hdA.size (.cells #[.int .u8 (r.1 : Int), .slice A3 r.2.length c3] 43)
      have hlit := Whole.new (w2.alloc (.cells #[.int .u8 (r.1 : Int), .slice A3 r.2.length c3] 43)) 43 #[.int .u8 (r.1 : Int), .slice A3 r.2.length c3]
      rw [World.size_alloc] at hlit
      have hbox := (Whole.new w2 43 #[.int .u8 (r.1 : Int), .slice A3 r.2.length c3])
      have x0 := hbox.cell 0
      have x1 := hbox.cell 1
      simp only [List.getElem?_toArray, List.getElem?_cons_zero, List.getElem?_cons_succ] at x0 x1
      have hR := HRows.out.under hdB
      obtain ⟨A4, c4, w4, hrun, hR4, hg4, _, hb4⟩ := recs_app _ w.heap.size _ pre hR (w2.heap.size + 1) r.1 A3 r.2.length c3 r.2 (by omega) (hlit.cell 0) (hlit.cell 1) (own_weaker ((o3.alloc _).alloc _) (by have := HBel.out.size; have := HD1.out.size; omega)) (by omega) hbB.size
      have HRun := Lib.hid hrun
      have HR4 := Lib.hid hR4
      have HB4 := Lib.hid (hbB.trans hb4)
      clear hrun hR4 hg4 hb4 hbB hbA hb1 hd hdA hdB hlit hbox hR o3 d3 HT2
      go_wp2_with (first | (at_builtin; refine wpList_app (by rfl) _ _ _ rfl _ _ _ _ rfl rfl HRun.out ?_; clear HRun))
      go_roundw
      case rel =>
        refine ⟨pre ++ [r], rest, k + F, by rw [← HP.out]; simp, by go_num, ?_, by omega, ?_, HB4.out⟩
        · rw [lbytes_app, lbytes_one, List.length_append, HF.out, HKU.out]
        · have h := HR4.out
          rwa [show pre.length + 1 = (pre ++ [r]).length by simp] at h
      case measure => simp [intOf]; omega

end Go.Proofs.Ytbkfpghpfaemeaa

/-
  The walks of 'Add', 'Safe' and 'Open' of package log. Conditions: those that each theorem names.
-/
namespace Go.Proofs.Ytbkfpghpfaemeaa
open Go.RowKit Go.Shelf

/-- What comes of adding records to a disk as it counts: the disk, the error. -/
def addD (L : List PR) (D : Dk) : Dk × Int :=
  if okAll L = true then (if D.bs.length + (lbytes L).length ≤ D.room then (⟨D.bs ++ lbytes L, D.syn, D.room⟩, 0) else (D, 30)) else (D, 2)
theorem addD_no {L : List PR} {D : Dk} (h : ¬ allOk L) : addD L D = (D, 2) := by rw [addD, okAll_no h, if_neg (by simp)]
theorem addD_full {L : List PR} {D : Dk} (h : allOk L) (hf : ¬ D.bs.length + (lbytes L).length ≤ D.room) : addD L D = (D, 30) := by rw [addD, okAll_yes h, if_pos rfl, if_neg hf]
theorem addD_yes {L : List PR} {D : Dk} (h : allOk L) (hf : D.bs.length + (lbytes L).length ≤ D.room) : addD L D = (⟨D.bs ++ lbytes L, D.syn, D.room⟩, 0) := by rw [addD, okAll_yes h, if_pos rfl, if_pos hf]
/-- A disk as it counts, and an error. -/
def DkE (D : Dk) (E : Int) (w : World) (e : Ending) (w' : World) : Prop := DiskNE D.bs.length D.bs D.syn D.room E w e w'
def DkI (D : Dk) (w : World) (e : Ending) (w' : World) : Prop := DiskN D.bs.length D.bs D.syn D.room w e w'
theorem append_D (A : Option Addr) (n c : Nat) (s r : Int) (bs : List Nat) (L : List PR) (Ab : Option Addr) (nb cb : Nat) (w : World) (hr : Rd w w.heap.size A n (bv bs)) (hc : n ≤ c) (hby : ∀ x ∈ bs, x < 256) (hL : allOk L) (hrb : Rd w w.heap.size Ab nb (bv (lbytes L))) (hcb : nb ≤ cb) (hcm : cb ≤ maxLen) (hnb : nb ≤ 100000) {D : Dk} (hD : cnt bs s r = D) :
    Calls Try.prog 34 #[diskV A n c s r, .slice Ab nb cb] w (DkE (addD L D).1 (addD L D).2 w) := by
  by_cases hf : D.bs.length + (lbytes L).length ≤ D.room
  · rw [addD_yes hL hf]
    have h := append_N hD hr hc hby hrb hcb hcm (lbytes_byte L) hnb hf
    unfold DkE
    simp only [List.length_append]
    exact h
  · rw [addD_full hL hf]
    exact append_full hD hr hc hby hrb hcb hcm (lbytes_byte L) hnb hf

set_option maxRecDepth 100000 in
set_option maxHeartbeats 1000000 in
theorem logAdd_any (A : Option Addr) (n c : Nat) (s r : Int) (bs : List Nat) (Ar : Option Addr) (nr cr : Nat) (es : List RE) (L : List PR) (hL : recsOf es = L) (w : World) (hr : Rd w w.heap.size A n (bv bs)) (hc : n ≤ c) (hby : ∀ x ∈ bs, x < 256) (hrr : RdR w w.heap.size Ar nr es) (hnr : nr ≤ 300) {D : Dk} (hD : cnt bs s r = D) :
    Calls Try.prog 12 #[diskV A n c s r, .slice Ar nr cr] w (DkE (addD L D).1 (addD L D).2 w) := by
  have hb0 : Below w.heap.size w ((w.alloc (diskB A n c s r)).alloc zeroB) := ((Below.refl _ w).alloc (Nat.le_refl _) _).alloc (by simp) _
  have hll : L.length = nr := by rw [← hL, recsOf, List.length_map]; exact hrr.1
  have HT := Lib.hid (together_any Ar nr cr es L hL w.heap.size _ (hrr.below hb0) hb0.size (by omega))
  have HX := Lib.hid ((Whole.new w 24 #[.slice A n c, .int .i64 s, .int .i64 r]).alloc zeroB)
  have hy := Whole.new (w.alloc (diskB A n c s r)) 24 #[.slice none 0 0, .int .i64 0, .int .i64 0]
  rw [World.size_alloc] at hy
  have HY := Lib.hid hy
  have HB := Lib.hid hb0
  have HR := Lib.hid hr
  have HBy := Lib.hid hby
  have HD := Lib.hid hD
  have HLl := Lib.hid hll
  obtain ⟨⟨D', E⟩, hRes⟩ : ∃ R, addD L D = R := ⟨_, rfl⟩
  rw [hRes]
  have HRes := Lib.hid hRes
  clear hb0 hrr hL hy hr hby hD hll hRes
  go_enter Try.func12, Try.ntmps12
  go_wp2_with fail
  refine (HT.out).mono ?_
  rintro e w1 ⟨Ab, nb, cb, er, rfl, hTok, hb1⟩
  have HX1 := Lib.hid (HX.out.under hb1)
  have HY1 := Lib.hid (HY.out.under hb1)
  have HB1 := Lib.hid (HB.out.trans (hb1.mono HB.out.size))
  obtain ⟨x0, x1, x2⟩ := HX1.out.cells3
  clear hb1 HT
  rcases hTok with ⟨hok, rfl, hnb, hown⟩ | ⟨hno, rfl, rfl, rfl, rfl⟩
  · have hnb1 : nb ≤ 100000 := by have := lbytes_le hok; rw [HLl.out] at this; omega
    have HA := Lib.hid (append_D A n c s r bs L Ab nb cb w1 ((HR.out.below HB1.out).more HB1.out.size) hc HBy.out hok (Rd.of_own hown) (own_cap hown) (own_capm hown) hnb1 HD.out)
    rw [HRes.out] at HA
    clear hown hnb
    go_wp2_with fail
    refine (HA.out).mono ?_
    rintro e w2 ⟨A2, c2, rfl, ho2, hb2⟩
    have HY2 := Lib.hid (HY1.out.under hb2)
    obtain ⟨y0, y1, y2⟩ := HY2.out.cells3
    have f0 := HY2.out.frozen 0
    have f1 := HY2.out.frozen 1
    have f2 := HY2.out.frozen 2
    have HO2 := Lib.hid ho2
    have HB2 := Lib.hid (HB1.out.trans (hb2.mono HB1.out.size))
    have hz := HY2.out.disk (.slice A2 D'.bs.length c2) (.int .i64 D'.syn) (.int .i64 D'.room)
    obtain ⟨p0, p1, p2⟩ := hz.cells3
    clear ho2 hb2 hz HA
    go_wp2_with fail
    refine bodyPost_ret (v := .tuple #[diskV A2 D'.bs.length c2 D'.syn D'.room, .int .i64 E]) (by simp [results, Try.results12, go_sem, p0, p1, p2]) rfl ⟨A2, c2, rfl, ?_, ?_⟩
    · exact own_weaker (own_setDisk HO2.out (b := w.heap.size + 1) (by have := HY1.out.lt; omega) _ _ _) (HB1.out.size)
    · exact below_setDisk HB2.out (b := w.heap.size + 1) (Nat.le_succ _) _ _ _
  · have h1 := HRes.out
    rw [addD_no hno] at h1
    injection h1 with h1 h2
    subst h1
    subst h2
    have HA := Lib.hid (own_any A n c s r bs w1.heap.size w1 ((HR.out.below HB1.out).more HB1.out.size) (Nat.le_refl _) hc)
    rw [HD.out] at HA
    clear hno
    go_wp2_with fail
    refine (HA.out).mono ?_
    rintro e w2 ⟨A2, c2, rfl, ho2, hb2⟩
    have HY2 := Lib.hid (HY1.out.under hb2)
    obtain ⟨y0, y1, y2⟩ := HY2.out.cells3
    have f0 := HY2.out.frozen 0
    have f1 := HY2.out.frozen 1
    have f2 := HY2.out.frozen 2
    have HO2 := Lib.hid ho2
    have HB2 := Lib.hid (HB1.out.trans (hb2.mono HB1.out.size))
    have hz := HY2.out.disk (.slice A2 D.bs.length c2) (.int .i64 D.syn) (.int .i64 D.room)
    obtain ⟨p0, p1, p2⟩ := hz.cells3
    clear ho2 hb2 hz HA
    go_wp2_with fail
    refine bodyPost_ret (v := .tuple #[diskV A2 D.bs.length c2 D.syn D.room, .int .i64 2]) (by simp [results, Try.results12, go_sem, p0, p1, p2]) rfl ⟨A2, c2, rfl, ?_, ?_⟩
    · exact own_weaker (own_setDisk HO2.out (b := w.heap.size + 1) (by have := HY1.out.lt; omega) _ _ _) (HB1.out.size)
    · exact below_setDisk HB2.out (b := w.heap.size + 1) (Nat.le_succ _) _ _ _

end Go.Proofs.Ytbkfpghpfaemeaa

/-
  The region of 'Open' of package log that leaves a disk its log alone: whatever the order. Conditions: those that each theorem names.
-/
namespace Go.Proofs.Ytbkfpghpfaemeaa
open Go.RowKit Go.Shelf

section
variable {m : Nat} {K : Act → World → Prop} {Q : Exit → Act → World → Prop} {a : Act} {w : World} {dst : Option Tmp} {x y : Operand} {o : Oper}
theorem opG_loadDisk {b : Nat} {A : Option Addr} {n c : Nat} {s r : Int} (h1 : o.dst = dst) (h2 : o.op = .load 24 x) (hx : a.eval x = .pointer (some ⟨b, 0, none⟩)) (hw : Whole w b 24 #[.slice A n c, .int .i64 s, .int .i64 r]) (h : K (a.put dst (diskV A n c s r)) w) : o.wpIn Fence.wide m Try.prog a w K Q := by
  subst h1
  obtain ⟨c0, c1, c2⟩ := hw.cells3
  refine opG_of o (fun _ _ => trivial) (by intro c; simp [h2]) ?_ h
  unfold execOp
  simp only [h2, hx]
  go_simp
theorem opG_fieldDisk {b : Nat} (h1 : o.dst = dst) (h2 : o.op = .fieldAddr 24 x 0) (hx : a.eval x = .pointer (some ⟨b, 0, none⟩)) (h : K (a.put dst (.pointer (some ⟨b, 0, none⟩))) w) : o.wpIn Fence.wide m Try.prog a w K Q := by
  subst h1
  refine opG_of o (fun _ _ => trivial) (by intro c; simp [h2]) ?_ h
  unfold execOp
  simp only [h2, hx]
  go_simp
theorem opG_head {A : Option Addr} {n c k : Nat} (h1 : o.dst = dst) (h2 : o.op = .slice 22 x none (some y) none) (hx : a.eval x = .slice A n c) (hy : a.eval y = .int .i64 (k : Int)) (hk : k ≤ c) (h : K (a.put dst (.slice A k c)) w) : o.wpIn Fence.wide m Try.prog a w K Q := by
  subst h1
  have hr := fun W => run_head A n c k hk W
  refine opG_of o (fun _ _ => trivial) (by intro c; simp [h2]) (v := .slice A k c) (w' := w) ?_ h
  unfold execOp
  simp only [h2, hx, hy, Option.map_some, Option.map_none]
  go_simp
theorem opG_extract {vs : Array Value} {i : Nat} {v : Value} (h1 : o.dst = dst) (h2 : o.op = .extract x i) (hx : a.eval x = .tuple vs) (hv : vs[i]? = some v) (h : K (a.put dst v) w) : o.wpIn Fence.wide m Try.prog a w K Q := by
  subst h1
  refine opG_of o (fun _ _ => trivial) (by intro c; simp [h2]) ?_ h
  unfold execOp
  simp only [h2, hx]
  simp [hv, go_sem]
theorem opG_storeDisk {b : Nat} {A : Option Addr} {n c : Nat} {s r : Int} {u0 u1 u2 : Value} (_ : o.dst = none) (h2 : o.op = .store 24 x y) (hx : a.eval x = .pointer (some ⟨b, 0, none⟩)) (hy : a.eval y = diskV A n c s r) (hw : Whole w b 24 #[u0, u1, u2]) (h : K a (setDisk w b (.slice A n c) (.int .i64 s) (.int .i64 r))) : o.wpIn Fence.wide m Try.prog a w K Q := by
  have f0 := hw.frozen 0
  have f1 := hw.frozen 1
  have f2 := hw.frozen 2
  obtain ⟨c0, c1, c2⟩ := hw.cells3
  refine ⟨fun _ _ => trivial, ?_⟩
  rw [Oper.semAt_plain Fence.wide _ _ (by intro c; simp [h2])]
  unfold execOp
  simp only [h2, hx, hy]
  go_simp
  exact h
theorem opG_call2 {T : Ending → World → Prop} {f : FuncId} {ts : Array TypeId} {v0 v1 : Value} (h1 : o.dst = dst) (h2 : o.op = .call { callee := .value (.func f), args := #[x, y], argTypes := ts }) (hx : a.eval x = v0) (hy : a.eval y = v1) (he : ∀ args w, (callFunc f args).run Try.prog w = .ok (.enter f args) w) (hc : Calls Try.prog f #[v0, v1] w T) (h : ∀ e w', T e w' → ∃ v, e = .returned v ∧ K (a.put dst v) w') : o.wpIn Fence.wide m Try.prog a w K Q := by
  subst h1
  have hf : a.eval (.func f) = .func (.func f) #[] #[] := rfl
  refine ⟨fun _ _ => trivial, ?_⟩
  rw [Oper.semAt_plain Fence.wide _ _ (by intro c; simp [h2])]
  unfold execOp
  simp only [h2, resolve, List.map_toArray, List.map_cons, List.map_nil, hx, hy, hf]
  simp [invoke, go_sem, he]
  refine ⟨fun h => (by cases h), (callsIn_wide.2 hc).mono ?_⟩
  intro e w' hT
  obtain ⟨v, rfl, hK⟩ := h e w' hT
  exact hK
end

abbrev opnDs : List Nat := [14, 15, 16, 17, 18, 19, 20, 21, 22]

/-- What holds behind any operations of the region that have come up. -/
structure OPI (a0 : Act) (W0 : World) (b0 : Nat) (A1 : Option Addr) (K c1 S R u : Nat) (ub : List Nat) (L : Nat → Bool) (a : Act) (w : World) : Prop where
  agree : Agree opnDs a0 a
  x0 : L 0 = true → a.eval (.tmp 15) = diskV A1 K c1 S R
  x1 : L 1 = true → a.eval (.tmp 16) = .pointer (some ⟨b0, 0, none⟩)
  x2 : L 2 = true → a.eval (.tmp 17) = .slice A1 K c1
  x3 : L 3 = true → a.eval (.tmp 18) = .int .i64 (u : Int)
  x4 : L 4 = true → a.eval (.tmp 19) = .slice A1 u c1
  s0 : L 5 = false → Below W0.heap.size W0 w
  s5 : L 5 = true → ∃ A5 c5 w5, w5.ownsRow W0.heap.size 5 1 (.slice A5 u c5) u (bv ub) ∧ Below W0.heap.size W0 w5 ∧ a.eval (.tmp 20) = .tuple #[diskV A5 u c5 u R, .int .i64 0] ∧ (L 6 = true → a.eval (.tmp 14) = .tuple #[diskV A5 u c5 u R, .int .i64 0]) ∧ (L 7 = true → a.eval (.tmp 21) = diskV A5 u c5 u R) ∧
    w = if L 9 = true then setDisk w5 b0 (.slice A5 u c5) (.int .i64 u) (.int .i64 R) else w5

set_option maxHeartbeats 1000000 in
theorem opn_region {ops : Array Oper} {Q : Exit → Act → World → Prop} {id m : Nat} (hsize : ops.size = 10) (hlow : lowOnly ops = true)
    (o0 : AtG ops 0 (some 15) (.load 24 (.tmp 1)) none [])
    (o1 : AtG ops 1 (some 16) (.fieldAddr 24 (.tmp 1) 0) none [])
    (o2 : AtG ops 2 (some 17) (.load 22 (.tmp 16)) none [1])
    (o3 : AtG ops 3 (some 18) (.move (.tmp 5)) none [])
    (o4 : AtG ops 4 (some 19) (.slice 22 (.tmp 17) none (some (.tmp 18)) none) none [2, 3])
    (o5 : AtG ops 5 (some 20) (.call { callee := .value (.func 37), args := #[.tmp 15, .tmp 19], argTypes := #[24, 22] }) none [0, 4])
    (o6 : AtG ops 6 (some 14) (.move (.tmp 20)) none [5])
    (o7 : AtG ops 7 (some 21) (.extract (.tmp 14) 0) none [6])
    (o8 : AtG ops 8 (some 22) (.extract (.tmp 14) 1) none [6])
    (o9 : AtG ops 9 none (.store 24 (.tmp 1) (.tmp 21)) none [7])
    (a0 : Act) (hds : ∀ d ∈ opnDs, d < a0.tmps.size) (W0 : World) (b0 : Nat) (A1 : Option Addr) (K c1 S R u : Nat) (ub : List Nat)
    (h1 : a0.eval (.tmp 1) = .pointer (some ⟨b0, 0, none⟩)) (h5 : a0.eval (.tmp 5) = .int .i64 (u : Int)) (hb : Whole W0 b0 24 #[.slice A1 K c1, .int .i64 (S : Int), .int .i64 (R : Int)]) (hu : u ≤ c1)
    (hswap : ∀ w : World, Below W0.heap.size W0 w → Calls Try.prog 37 #[diskV A1 K c1 S R, .slice A1 u c1] w (DiskNE u ub u R 0 w))
    (fin : ∀ (σ : Nat → Value) w5 A5 c5, w5.ownsRow W0.heap.size 5 1 (.slice A5 u c5) u (bv ub) → Below W0.heap.size W0 w5 → Q .normal (lay σ opnDs a0) (setDisk w5 b0 (.slice A5 u c5) (.int .i64 u) (.int .i64 R))) :
    (Code.region id ops true).wpIn Fence.wide m Try.prog Q a0 W0 := by
  refine region_cloIn (by kernel_rfl) hlow (fun L a w => OPI a0 W0 b0 A1 K c1 S R u ub L a w) ?_ ?_ ?_
  · exact ⟨Agree.refl _ _, by simp, by simp, by simp, by simp, by simp, fun _ => (Below.refl _ _).drew, by simp⟩
  · rintro i o L a w ho hi hclo hall I
    have hlt : i < 10 := by rw [← hsize]; exact (Array.getElem?_eq_some_iff.1 ho).1
    have hz : ∀ d ∈ opnDs, d < a.tmps.size := fun d hd => by rw [I.agree.size]; exact hds d hd
    rcases (by omega : i = 0 ∨ i = 1 ∨ i = 2 ∨ i = 3 ∨ i = 4 ∨ i = 5 ∨ i = 6 ∨ i = 7 ∨ i = 8 ∨ i = 9) with rfl | rfl | rfl | rfl | rfl | rfl | rfl | rfl | rfl | rfl
    · have hd := o0.needs ho hall
      refine o0.runIn (by simp) fun o' p1 p2 => opG_loadDisk p1 p2 (by rw [I.agree.eval (by decide)]; exact h1) (hb.under (I.s0 (o5.not hclo (j := 0) (by simp) hi))) ⟨I.agree.put (by decide) _, ?_, ?_, ?_, ?_, ?_, ?_, ?_⟩
      · intro _; exact eval_new (hz _ (by decide)) _
      · simpa [eval_old] using I.x1
      · simpa [eval_old] using I.x2
      · simpa [eval_old] using I.x3
      · simpa [eval_old] using I.x4
      · simpa [eval_old] using I.s0
      · simpa [eval_old] using I.s5
    · have hd := o1.needs ho hall
      refine o1.runIn (by simp) fun o' p1 p2 => opG_fieldDisk p1 p2 (by rw [I.agree.eval (by decide)]; exact h1) ⟨I.agree.put (by decide) _, ?_, ?_, ?_, ?_, ?_, ?_, ?_⟩
      · simpa [eval_old] using I.x0
      · intro _; exact eval_new (hz _ (by decide)) _
      · simpa [eval_old] using I.x2
      · simpa [eval_old] using I.x3
      · simpa [eval_old] using I.x4
      · simpa [eval_old] using I.s0
      · simpa [eval_old] using I.s5
    · have hd := o2.needs ho hall
      refine o2.runIn (by simp) fun o' p1 p2 => opG_loadRow p1 p2 (I.x1 (hd 1 (by simp))) ((hb.under (I.s0 (o5.not hclo (j := 4) (by simp) (o4.not hclo (j := 2) (by simp) hi)))).cell 0) ⟨I.agree.put (by decide) _, ?_, ?_, ?_, ?_, ?_, ?_, ?_⟩
      · simpa [eval_old] using I.x0
      · simpa [eval_old] using I.x1
      · intro _; exact eval_new (hz _ (by decide)) _
      · simpa [eval_old] using I.x3
      · simpa [eval_old] using I.x4
      · simpa [eval_old] using I.s0
      · simpa [eval_old] using I.s5
    · have hd := o3.needs ho hall
      refine o3.runIn (by simp) fun o' p1 p2 => opG_move p1 p2 ((I.agree.eval (by decide)).trans h5) ⟨I.agree.put (by decide) _, ?_, ?_, ?_, ?_, ?_, ?_, ?_⟩
      · simpa [eval_old] using I.x0
      · simpa [eval_old] using I.x1
      · simpa [eval_old] using I.x2
      · intro _; exact eval_new (hz _ (by decide)) _
      · simpa [eval_old] using I.x4
      · simpa [eval_old] using I.s0
      · simpa [eval_old] using I.s5
    · have hd := o4.needs ho hall
      refine o4.runIn (by simp) fun o' p1 p2 => opG_head p1 p2 (I.x2 (hd 2 (by simp))) (I.x3 (hd 3 (by simp))) hu ⟨I.agree.put (by decide) _, ?_, ?_, ?_, ?_, ?_, ?_, ?_⟩
      · simpa [eval_old] using I.x0
      · simpa [eval_old] using I.x1
      · simpa [eval_old] using I.x2
      · simpa [eval_old] using I.x3
      · intro _; exact eval_new (hz _ (by decide)) _
      · simpa [eval_old] using I.s0
      · simpa [eval_old] using I.s5
    · have hd := o5.needs ho hall
      have n6 := o6.not hclo (j := 5) (by simp) hi
      have n7 := o7.not hclo (j := 6) (by simp) n6
      have n9 := o9.not hclo (j := 7) (by simp) n7
      have hw := I.s0 hi
      refine o5.runIn (by simp) fun o' p1 p2 => opG_call2 p1 p2 (I.x0 (hd 0 (by simp))) (I.x4 (hd 4 (by simp))) (enters_of Try.func37 (by kernel_rfl) rfl) (hswap w hw) ?_
      rintro e w' ⟨A5, c5, rfl, ho5, hb5⟩
      refine ⟨_, rfl, I.agree.put (by decide) _, ?_, ?_, ?_, ?_, ?_, ?_, ?_⟩
      · simpa [eval_old] using I.x0
      · simpa [eval_old] using I.x1
      · simpa [eval_old] using I.x2
      · simpa [eval_old] using I.x3
      · simpa [eval_old] using I.x4
      · simp
      · intro _
        exact ⟨A5, c5, w', own_weaker ho5 hw.size, hw.trans (hb5.mono hw.size), eval_new (hz _ (by decide)) _, by simp [n6], by simp [n7], by simp [n9]⟩
    · have hd := o6.needs ho hall
      have h5' : L 5 = true := hd 5 (by simp)
      obtain ⟨A5, c5, w5, g1, g2, g3, g4, g5, g6⟩ := I.s5 h5'
      refine o6.runIn (by simp) fun o' p1 p2 => opG_move p1 p2 g3 ⟨I.agree.put (by decide) _, ?_, ?_, ?_, ?_, ?_, ?_, ?_⟩
      · simpa [eval_old] using I.x0
      · simpa [eval_old] using I.x1
      · simpa [eval_old] using I.x2
      · simpa [eval_old] using I.x3
      · simpa [eval_old] using I.x4
      · simpa [eval_old] using I.s0
      · intro _
        exact ⟨A5, c5, w5, g1, g2, by simpa [eval_old] using g3, fun _ => eval_new (hz _ (by decide)) _, by simpa [eval_old] using g5, by simpa using g6⟩
    · have hd := o7.needs ho hall
      have h5' : L 5 = true := by cases hv : L 5 with | true => rfl | false => have := o6.not hclo (j := 5) (by simp) hv; rw [hd 6 (by simp)] at this; cases this
      obtain ⟨A5, c5, w5, g1, g2, g3, g4, g5, g6⟩ := I.s5 h5'
      refine o7.runIn (by simp) fun o' p1 p2 => opG_extract p1 p2 (g4 (hd 6 (by simp))) rfl ⟨I.agree.put (by decide) _, ?_, ?_, ?_, ?_, ?_, ?_, ?_⟩
      · simpa [eval_old] using I.x0
      · simpa [eval_old] using I.x1
      · simpa [eval_old] using I.x2
      · simpa [eval_old] using I.x3
      · simpa [eval_old] using I.x4
      · simpa [eval_old] using I.s0
      · intro _
        exact ⟨A5, c5, w5, g1, g2, by simpa [eval_old] using g3, by simpa [eval_old] using g4, fun _ => eval_new (hz _ (by decide)) _, by simpa using g6⟩
    · have hd := o8.needs ho hall
      have h5' : L 5 = true := by cases hv : L 5 with | true => rfl | false => have := o6.not hclo (j := 5) (by simp) hv; rw [hd 6 (by simp)] at this; cases this
      obtain ⟨A5, c5, w5, g1, g2, g3, g4, g5, g6⟩ := I.s5 h5'
      refine o8.runIn (by simp) fun o' p1 p2 => opG_extract p1 p2 (g4 (hd 6 (by simp))) rfl ⟨I.agree.put (by decide) _, ?_, ?_, ?_, ?_, ?_, ?_, ?_⟩
      · simpa [eval_old] using I.x0
      · simpa [eval_old] using I.x1
      · simpa [eval_old] using I.x2
      · simpa [eval_old] using I.x3
      · simpa [eval_old] using I.x4
      · simpa [eval_old] using I.s0
      · intro _
        exact ⟨A5, c5, w5, g1, g2, by simpa [eval_old] using g3, by simpa [eval_old] using g4, by simpa [eval_old] using g5, by simpa using g6⟩
    · have hd := o9.needs ho hall
      have h5' : L 5 = true := by cases hv : L 5 with | true => rfl | false => have := o7.not hclo (j := 6) (by simp) (o6.not hclo (j := 5) (by simp) hv); rw [hd 7 (by simp)] at this; cases this
      obtain ⟨A5, c5, w5, g1, g2, g3, g4, g5, g6⟩ := I.s5 h5'
      rw [hi] at g6
      simp only [Bool.false_eq_true, if_false] at g6
      refine o9.runIn (by simp) fun o' p1 p2 => opG_storeDisk p1 p2 (by rw [I.agree.eval (by decide)]; exact h1) (g5 (hd 7 (by simp))) (by rw [g6]; exact hb.under g2) ⟨I.agree, ?_, ?_, ?_, ?_, ?_, ?_, ?_⟩
      · simpa using I.x0
      · simpa using I.x1
      · simpa using I.x2
      · simpa using I.x3
      · simpa using I.x4
      · intro h; simp [h5'] at h
      · intro _
        exact ⟨A5, c5, w5, g1, g2, g3, by simpa using g4, by simpa using g5, by simp [g6]⟩
  · intro L a w hall I
    obtain ⟨A5, c5, w5, g1, g2, _, _, _, g6⟩ := I.s5 (hall 5 (by omega))
    rw [hall 9 (by omega), if_pos rfl] at g6
    rw [I.agree.lay hds, g6]
    exact fin (fun d => a.eval (.tmp d)) w5 A5 c5 g1 g2

end Go.Proofs.Ytbkfpghpfaemeaa
