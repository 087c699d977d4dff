/-
  Pages in a row of one's own, and all that stands on them in another one: a page more. Conditions: those that each theorem names.
-/
import Derived.Test.YtdoaakohgmohkaaPgLawKit
import Derived.Maps.AppendAt
namespace Go.Proofs.Ytdoaakohgmohkaa
open Go.RowKit Go.Shelf

theorem info_rowN : (Try.prog.info? 28).map (fun i => (i.zero, i.size, i.bytes)) = some (some (.slice none 0 0), 1, 24) := by kernel_rfl

/-- Pages in a row of one's own, each a row of one's own; all that stands on them, in another row. -/
structure PwIn (W : World) (base : Nat) (pv av : Value) (es : List PE) (acc : List Sn) : Prop where
  pages : W.ownsRow base 28 1 pv es.length (es.map PE.val)
  each : ∀ x ∈ es, W.ownsRow base 35 7 x.val x.n (flatN x.ps)
  all : W.ownsRow base 35 7 av acc.length (flatN acc)
  apart : ∀ x ∈ es, ∀ g, x.val.ownBlock = some g → av.ownBlock ≠ some g
section
variable {W W' : World} {base : Nat} {pv av : Value} {es : List PE} {acc : List Sn}
theorem PwIn.under (h : PwIn W base pv av es acc) (hb : Below W.heap.size W W') : PwIn W' base pv av es acc :=
  ⟨own_under h.pages hb, fun x hx => own_under (h.each x hx) hb, own_under h.all hb, h.apart⟩
/-- Two rows of one's own whose elements are of two types lie in two blocks. -/
theorem own_two {b1 b2 n m s1 s2 : Nat} {e1 e2 : TypeId} {u v : Value} {xs ys : List Value} (h1 : W.ownsRow b1 e1 s1 u n xs) (h2 : W.ownsRow b2 e2 s2 v m ys) (he : e1 ≠ e2) : ∀ g, u.ownBlock = some g → v.ownBlock ≠ some g := by
  intro g hu hv
  rcases h1.2 with ⟨rfl, _⟩ | ⟨g1, _, _, rfl, _, k1, _⟩
  · simp [Value.ownBlock] at hu
  rcases h2.2 with ⟨rfl, _⟩ | ⟨g2, _, _, rfl, _, k2, _⟩
  · simp [Value.ownBlock] at hv
  simp only [Value.ownBlock, Option.some.injEq] at hu hv
  subst hu; subst hv
  rw [k1] at k2
  injection k2 with k2
  injection k2 with _ k3 _
  exact he k3
theorem own_keep {b1 n s1 : Nat} {e1 : TypeId} {u v : Value} {xs : List Value} (h : W.ownsRow b1 e1 s1 u n xs) (hg : W.grownBy W' v.ownBlock) (hne : ∀ g, u.ownBlock = some g → v.ownBlock ≠ some g) : W'.ownsRow b1 e1 s1 u n xs := by
  refine h.kept hg ?_
  cases e : u.ownBlock with
  | none => exact .inl rfl
  | some g => exact .inr fun k => hne g e k.symm

/-- 'pages = append(pages, l)'. -/
theorem PwIn.page (h : PwIn W base pv av es acc) {x : PE} {b2 : Nat} (hx : W.ownsRow b2 35 7 x.val x.n (flatN x.ps)) (hb2 : base ≤ b2) (hal : ∀ g, av.ownBlock = some g → g < b2) (hbase : base ≤ W.heap.size) (hm : es.length ≤ 1000) :
    ∃ A' c' W', (Builtin.append_ #[27, 27] 27 #[pv, .slice (some ⟨W.heap.size, 0, none⟩) 1 1]).run Try.prog (W.alloc (.cells #[.slice x.A x.n x.c] 28)) = .ok (.slice A' (es.length + 1) c') W' ∧ PwIn W' base (.slice A' (es.length + 1) c') av (es ++ [x]) acc ∧ Below base W W' := by
  obtain ⟨i0, hi, hz0, hz1, hz2⟩ := info_parts info_rowN
  have hbu : Below W.heap.size W (W.alloc (.cells #[.slice x.A x.n x.c] 28)) := (Below.refl _ _).alloc (Nat.le_refl _) _
  have h2 := h.under hbu
  have hx2 := own_under hx hbu
  obtain ⟨v', W', g1, g2, g3, _⟩ := run_append_own (P := Try.prog) (W.alloc (.cells #[.slice x.A x.n x.c] 28)) base 27 27 28 i0 (.slice none 0 0) 1 24 Try.underlying27 hi hz0 hz1 hz2 rfl (by decide) pv es.length _ h2.pages ⟨W.heap.size, 0, none⟩ 1 1 [.slice x.A x.n x.c] rfl (by
    intro j u hu
    match j, hu with
    | 0, hu => simp at hu; subst hu; simp [Addr.add]
    | j + 1, hu => simp at hu) (by simp [Value.oneCell']) (by unfold maxLen; omega) (by omega) (by simp; omega)
  obtain ⟨A', c', rfl⟩ := own_formN g2
  have ne : 35 ≠ 28 := by decide
  refine ⟨A', c', W', g1, ⟨?_, fun y hy => ?_, own_keep h2.all g3 (own_two h2.all h2.pages ne), fun y hy g hg => ?_⟩, (hbu.mono hbase).trans (below_row h2.pages g3 (by simp; omega))⟩
  · rw [List.length_append, List.length_singleton, List.map_append]; exact g2
  · simp only [List.mem_append, List.mem_singleton] at hy
    rcases hy with hy | rfl
    · exact own_keep (h2.each y hy) g3 (own_two (h2.each y hy) h2.pages ne)
    · exact own_weaker (own_keep hx2 g3 (own_two hx2 h2.pages ne)) hb2
  · simp only [List.mem_append, List.mem_singleton] at hy
    rcases hy with hy | rfl
    · exact h.apart y hy g hg
    · intro e
      have h5 := hal g e
      have h6 := (hx.lt g hg).1
      omega

set_option maxRecDepth 100000 in
/-- 'all = append(all, l...)', l one of the pages. -/
theorem PwIn.more (h : PwIn W base pv av es acc) {x : PE} (hx : x ∈ es) (hbase : base ≤ W.heap.size) (hm : acc.length + x.n ≤ 1000) :
    ∃ A' c' W', (Builtin.append_ #[28, 28] 28 #[av, .slice x.A x.n x.c]).run Try.prog W = .ok (.slice A' (acc.length + x.n) c') W' ∧ PwIn W' base pv (.slice A' (acc.length + x.n) c') es (acc ++ x.ps) ∧ Below base W W' := by
  obtain ⟨i0, hi, hz0, hz1, hz2⟩ := info_parts info_sn
  have hr : RdSn W W.heap.size x.A x.n x.ps := RdSn.of_own (h.each x hx)
  have ne : 28 ≠ 35 := by decide
  have key : ∃ v' W', (Builtin.append_ #[28, 28] 28 #[av, .slice x.A x.n x.c]).run Try.prog W = .ok v' W' ∧ W'.ownsRow base 35 7 v' (acc.length + x.n) (flatN acc ++ flatN x.ps) ∧ W.grownBy W' av.ownBlock ∧ (v'.ownBlock = av.ownBlock ∨ v'.ownBlock = some W.heap.size) := by
    rcases hA : x.A with _ | ad
    · have hn0 : x.n = 0 := by
        rcases Nat.eq_zero_or_pos x.n with h0 | h0
        · exact h0
        · obtain ⟨b, off, e, _⟩ := hr.2 h0
          rw [hA] at e
          cases e
      have hp : x.ps = [] := List.eq_nil_of_length_eq_zero (by rw [hr.1, hn0])
      have ht := Try.underlying28
      rw [hn0, hp]
      refine ⟨av, W, ?_, by simpa [flatN] using h.all, World.grownBy.refl W _, .inl rfl⟩
      rcases h.all.2 with ⟨h1, _⟩ | ⟨g, cap, cur, h1, _, _, hnc, _⟩
      · rw [h1]; simp [Builtin.append_, run_underlying ht, sizeOf, typeInfo, hi, Builtin.lenOf, Builtin.firstCells]
      · rw [h1]; simp [Builtin.append_, run_underlying ht, sizeOf, typeInfo, hi, Builtin.lenOf, Builtin.firstCells, hnc, storeCells]
    · rw [hA] at hr
      obtain ⟨v', w', h1, h2, h3, _, h5⟩ := run_append_own_at (P := Try.prog) (w := W) base 28 28 35 i0 _ 7 40 Try.underlying28 hi hz0 hz1 hz2 rfl (by decide) av acc.length (flatN acc) h.all ad x.n x.c (flatN x.ps) (by rw [flatN_length, hr.1]) hr.cells (flatN_one x.ps) (by unfold maxLen; omega) (by omega) hbase
      exact ⟨v', w', h1, h2, h3, h5⟩
  obtain ⟨v', W', k1, k2, k3, k4⟩ := key
  rw [← flatN_append] at k2
  obtain ⟨A', c', rfl⟩ := own_formN k2
  have hl : (acc ++ x.ps).length = acc.length + x.n := by rw [List.length_append, hr.1]
  refine ⟨A', c', W', k1, ⟨own_keep h.pages k3 (own_two h.pages h.all ne), fun y hy => own_keep (h.each y hy) k3 (h.apart y hy), by rw [hl]; exact k2, fun y hy g hg e => ?_⟩, below_row h.all k3 hbase⟩
  rcases k4 with k4 | k4
  · exact h.apart y hy g hg (k4 ▸ e)
  · rw [k4] at e
    injection e with e
    have := ((h.each y hy).lt g hg).2
    omega

/-- The pages, as they are read. -/
theorem PwIn.read {A : Option Addr} {k c : Nat} (h : PwIn W base (.slice A k c) av es acc) (hk : es.length = k) : RdPw W A k es := by
  subst hk
  refine ⟨rfl, fun hn => ?_, fun x hx => RdG.of (RdSn.of_own (h.each x hx)) fun b hb => hb⟩
  obtain ⟨g, cap, hv, _, hlt⟩ := h.pages.form hn
  injection hv with hA _ hc
  subst hA
  refine ⟨g, 0, rfl, hlt, fun j x hx => ?_⟩
  rw [Nat.zero_add]
  have hj : j < es.length := (List.getElem?_eq_some_iff.1 hx).1
  rw [h.pages.cellAt j (by omega), List.getElem?_map, hx]
  rfl
end

/-- Of, its page in a row of one's own. -/
theorem ofLo {x : Cw} {n : Nat} (h : right x = true) {b : Int} {P : List Sn} {M : Bool} {k : Nat} (hP : pageOf (shown x.l) b = P) (hM : moreOf (shown x.l) b = M) (hk : P.length = k) (hn : n ≤ 1000) (W : World) (A : Option Addr) (c : Nat) (hr : RdX W W.heap.size A n x.l) :
    Calls Try.prog 10 #[.agg #[.slice A n c, .int .i64 x.fl, .int .i64 x.dr, .int .i64 x.nw, .bool x.tg], .int .i64 b] W fun e w' => ∃ A' c', e = .returned (.tuple #[.slice A' k c', .bool M]) ∧ w'.ownsRow W.heap.size 35 7 (.slice A' k c') k (flatN P) ∧ Below W.heap.size W w' := by
  subst hP; subst hM; subst hk
  exact of_any A n c x b W hr hn h

end Go.Proofs.Ytdoaakohgmohkaa
