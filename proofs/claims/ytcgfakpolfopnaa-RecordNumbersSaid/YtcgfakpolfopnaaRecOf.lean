/-
  The walk of 'Of' of package record. Conditions: those that each theorem names.
-/
import Derived.Test.YtcgfakpolfopnaaNumUse
import Derived.Test.YtcgfakpolfopnaaRecIter
namespace Go.Proofs.Ytcgfakpolfopnaa
open Go.RowKit Go.Shelf

/-- 'append(v, x...)' at integers: v of the call's own, x whatever reads. -/
theorem run_appI (w : World) (base : Nat) (v : Value) (n : Nat) (xs : List Value) (hown : w.ownsRow base 3 1 v n xs) (B : Nat) (A : Option Addr) (m c : Nat) (zs : List Int) (hr : Rd w B A m (iv zs)) (hm : n + m ≤ 1000000) (hbase : base ≤ w.heap.size) :
    ∃ v' w', (Builtin.append_ #[22, 22] 22 #[v, .slice A m c]).run Try.prog w = .ok v' w' ∧ w'.ownsRow base 3 1 v' (n + m) (xs ++ iv zs) ∧ w.grownBy w' v.ownBlock := by
  obtain ⟨i0, hi, hz0, hz1, hz2⟩ := info_parts info_int
  rcases A with _ | ad
  · have hm0 : m = 0 := by
      rcases Nat.eq_zero_or_pos m with h | h
      · exact h
      · obtain ⟨b, off, e, _⟩ := hr.2 h
        cases e
    subst hm0
    have hb : zs = [] := by have := hr.1; rw [iv_length] at this; exact List.eq_nil_of_length_eq_zero this
    subst hb
    have ht := Try.underlying22
    refine ⟨v, w, ?_, by simpa [iv] using hown, World.grownBy.refl w _⟩
    rcases hown.2 with ⟨rfl, _⟩ | ⟨g, cap, cur, rfl, _, _, hnc, _⟩
    · simp [Builtin.append_, run_underlying ht, sizeOf, typeInfo, hi, Builtin.lenOf, Builtin.firstCells]
    · simp [Builtin.append_, run_underlying ht, sizeOf, typeInfo, hi, Builtin.lenOf, Builtin.firstCells, hnc, storeCells]
  · have hcells : ∀ j u, (iv zs)[j]? = some u → w.cell? (ad.add j) = some u := by
      intro j u hu
      have hj : j < m := by rw [← hr.1]; exact (List.getElem?_eq_some_iff.1 hu).1
      obtain ⟨b, off, e, _, hc⟩ := hr.2 (by omega)
      injection e with e
      subst e
      rw [Addr.add_lit, hc j hj, hu]
    obtain ⟨v', w', h1, h2, h3, _⟩ := run_append_own (P := Try.prog) w base 22 22 3 i0 (.int .i64 0) 1 8 Try.underlying22 hi hz0 hz1 hz2 rfl (by decide) v n xs hown ad m c (iv zs) (by rw [hr.1, Nat.mul_one]) hcells (iv_one zs) (by unfold maxLen; omega) (by omega) hbase
    exact ⟨v', w', h1, h2, h3⟩

/-- A record that is answered: its kind, its numbers in memory of the call's own. -/
def RecIs (k : Nat) (zs : List Int) (w : World) (e : Ending) (w' : World) : Prop :=
  ∃ A c, e = .returned (.agg #[.int .u8 (k : Int), .slice A zs.length c]) ∧ w'.ownsRow w.heap.size 3 1 (.slice A zs.length c) zs.length (iv zs) ∧ Below w.heap.size w w'

set_option maxHeartbeats 400000 in
theorem of_any (k : Nat) (A : Option Addr) (n c : Nat) (zs : List Int) (B : Nat) (w : World) (hr : Rd w B A n (iv zs)) (hB : B ≤ w.heap.size) (hn : n ≤ 1000000) :
    Calls Try.prog 23 #[.int .u8 (k : Int), .slice A n c] w (RecIs k zs w) := by
  have hl : zs.length = n := by have := hr.1; rwa [iv_length] at this
  have hbox := Whole.new w 24 #[.int .u8 0, .slice none 0 0]
  have hbel : Below w.heap.size w (w.alloc (.cells #[.int .u8 0, .slice none 0 0] 24)) := (Below.refl _ w).alloc (Nat.le_refl _) _
  obtain ⟨v1, W1, e1, o1, g1⟩ := run_appI (w.alloc (.cells #[.int .u8 0, .slice none 0 0] 24)) (w.heap.size + 1) (.slice none 0 0) 0 [] (World.ownsRow_nil _ _ _ _) B A n c zs (hr.below (hbel.mono hB)) (by omega) (by simp)
  rw [Nat.zero_add, List.nil_append] at o1
  obtain ⟨A1, c1, rfl⟩ := own_form o1
  have hbox1 := hbox.grown g1 (by simp [Value.ownBlock])
  have hb1 : Below w.heap.size w W1 := hbel.trans ((Below.refl _ _).grown g1 (by simp) (fun k e => by simp [Value.ownBlock] at e))
  have h0 := hbox1.cell 0
  have h1 := hbox1.cell 1
  have f0 := hbox1.frozen 0
  have f1 := hbox1.frozen 1
  have E1 := Lib.hid e1
  have O1 := Lib.hid o1
  have HX := Lib.hid hbox1
  have HB := Lib.hid hb1
  have Hl := Lib.hid hl
  clear e1 o1 g1 hbox hbel hr hl hbox1 hb1
  simp only [List.getElem?_toArray, List.getElem?_cons_zero, List.getElem?_cons_succ] at h0 h1
  go_enter Try.func23, Try.ntmps23
  go_wp2_with (at_builtin; refine wpList_app (by rfl) _ _ _ rfl _ _ _ _ rfl rfl E1.out ?_; clear E1)
  have hw := (HX.out.set 0 (.int .u8 (k : Int))).set 1 (.slice A1 n c1)
  have q0 := hw.cell 0
  have q1 := hw.cell 1
  simp at q0 q1
  refine bodyPost_ret (v := .agg #[.int .u8 (k : Int), .slice A1 n c1]) (by simp [results, Try.results23, go_sem, q0, q1]) rfl ⟨A1, c1, by rw [Hl.out], ?_, ?_⟩
  · rw [Hl.out]
    have hne : (Value.slice A1 n c1).ownBlock ≠ some w.heap.size := fun e => by have := (O1.out.lt _ e).1; omega
    exact own_weaker (ownsRow_setCell_other (ownsRow_setCell_other (a := ⟨w.heap.size, 0, none⟩) O1.out hne _) (a := ⟨w.heap.size, 1, none⟩) hne _) (Nat.le_succ _)
  · exact (HB.out.setCell (p := ⟨w.heap.size, 0, none⟩) (Nat.le_refl _) _).setCell (p := ⟨w.heap.size, 1, none⟩) (Nat.le_refl _) _

end Go.Proofs.Ytcgfakpolfopnaa
