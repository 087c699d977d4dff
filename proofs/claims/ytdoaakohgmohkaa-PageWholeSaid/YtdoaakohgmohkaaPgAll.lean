/-
  The walk of 'All' of package page. Conditions: those that each theorem names.
-/
import Derived.Test.YtdoaakohgmohkaaPgOf
import Derived.Test.YtdoaakohgmohkaaPgNext
import Derived.Test.YtdoaakohgmohkaaPgWhole
namespace Go.Proofs.Ytdoaakohgmohkaa
open Go.RowKit Go.Shelf

set_option maxRecDepth 100000 in
/-- A scope with three pieces of code ahead of its label, at which the run comes back. -/
theorem wp_scope_back_behind3 {P : Program} {a : Act} {w : World} {Q : Exit → Act → World → Prop} {p1 p2 p3 rest : Code} (l : Nat) (J : Act → World → Prop) (μ : Act → World → Nat) (hn1 : findLabel p1 l = none) (hn2 : findLabel p2 l = none) (hn3 : findLabel p3 l = none)
    (h0 : p1.wp P (fun e a w => e = .normal ∧ p2.wp P (fun e a w => e = .normal ∧ p3.wp P (fun e a w => e = .normal ∧ J a w) a w) a w) a w)
    (pass : ∀ a w, J a w → rest.wp P (Exit.jump l (fun a' w' => J a' w' ∧ μ a' w' < μ a w) Q) a w) : (Code.scope (p1.seq (p2.seq (p3.seq ((Code.label l).seq rest))))).wp P Q a w := by
  refine wp_scope_jumps l J μ (rest := Code.skip.seq rest) (by simp [findLabel, hn1, hn2, hn3]) (wp_seq (wp_mono h0 ?_)) (fun a w hJ => wp_seq (wp_skip (pass a w hJ)))
  rintro e a1 w1 ⟨rfl, h1⟩
  refine wp_seq (wp_mono h1 ?_)
  rintro e a2 w2 ⟨rfl, h2⟩
  refine wp_seq (wp_mono h2 ?_)
  rintro e a3 w3 ⟨rfl, h3⟩
  refine wp_seq (wp_label (wp_mono (pass a3 w3 h3) ?_))
  rintro (_ | _ | l | _ | _ | _) a4 w4 h
  all_goals first | exact h | exact ⟨h.1, h.2.1⟩

def sliceLen : Value → Nat
  | .slice _ n _ => n
  | _ => 0
/-- What comes of it: all that is shown, of one's own. -/
def AllSPost (S : List Sn) (w : World) (e : Ending) (w' : World) : Prop :=
  ∃ A c, e = .returned (.slice A S.length c) ∧ w'.ownsRow w.heap.size 35 7 (.slice A S.length c) S.length (flatN S) ∧ Below w.heap.size w w'

set_option maxRecDepth 100000 in
/-- A row that came behind another one stays while that one grows. -/
theorem own_behind {W W' : World} {b2 m : Nat} {e2 : TypeId} {s2 : Nat} {u v : Value} {ys : List Value} (hu : W.ownsRow b2 e2 s2 u m ys) (hv : ∀ g, v.ownBlock = some g → g < b2) (hg : W.grownBy W' v.ownBlock) : W'.ownsRow b2 e2 s2 u m ys := by
  refine hu.kept hg ?_
  rcases hu.2 with ⟨rfl, _⟩ | ⟨g, cap, cur, rfl, h1, _⟩
  · exact .inl rfl
  · right
    intro e
    simp only [Value.ownBlock] at e
    have := hv g e.symm
    omega

/-- Where it stands. -/
def AlAt (A : Option Addr) (n c : Nat) (x : Cw) (w : World) (S : List Sn) (a' : Act) (w' : World) : Prop :=
  ∃ (acc : List Sn) (b : Int) (A3 : Option Addr) (c3 g : Nat) (w2 : World) (u0 u1 u4 u5 u8 u9 u10 u11 u12 u13 u14 u15 u16 u17 u18 u19 u20 u21 u22 u23 : Value), a' = { tmps := #[u0, u1, .slice none 0 0, .slice A3 acc.length c3, u4, u5, .int .i64 b, .func (.func 25) #[] #[.pointer (some ⟨g, 0, none⟩)], u8, u9, u10, u11, u12, u13, u14, u15, u16, u17, u18, u19, u20, u21, u22, u23], defers := [] } ∧
    acc ++ restOf S b = S ∧ w'.ownsRow w2.heap.size 35 7 (.slice A3 acc.length c3) acc.length (flatN acc) ∧ Below w2.heap.size w2 w' ∧
    Below w.heap.size w w2 ∧ Whole w2 g 24 #[.slice A n c, .int .i64 x.fl, .int .i64 x.dr, .int .i64 x.nw, .bool x.tg] ∧ RdX w2 w2.heap.size A n x.l

set_option maxRecDepth 100000 in
set_option maxHeartbeats 2000000 in
theorem all_any (A : Option Addr) (n c : Nat) (x : Cw) (w : World) (hr : RdX w w.heap.size A n x.l) (hn : n ≤ 1000) (h : right x = true) :
    Calls Try.prog 14 #[.agg #[.slice A n c, .int .i64 x.fl, .int .i64 x.dr, .int .i64 x.nw, .bool x.tg]] w (AllSPost (shown x.l) w) := by
  have hB : Below w.heap.size w (w.alloc (.cells #[.slice A n c, .int .i64 x.fl, .int .i64 x.dr, .int .i64 x.nw, .bool x.tg] 24)) := (Below.refl _ w).alloc (Nat.le_refl _) _
  have hr1 := (hr.below hB).more hB.size
  have HB := Lib.hid hB
  have HR := Lib.hid hr1
  have HS := Lib.hid (shown_yes A n c x _ hr1 h)
  have HRi := Lib.hid (rising_right h)
  have HPo := Lib.hid (restOf_all (shown_pos h))
  have hle : (shown x.l).length ≤ 1000 := Nat.le_trans (shown_le _) (by rw [hr.1]; exact hn)
  have HLe := Lib.hid hle
  clear hr hB hr1 h hle
  obtain ⟨S, hS⟩ : ∃ S, shown x.l = S := ⟨_, rfl⟩
  have HSe := Lib.hid hS
  rw [hS] at HRi HPo HLe ⊢
  clear hS
  go_enter Try.func14, Try.ntmps14
  go_wp2_with fail
  refine wp_scope_back_behind3 0 (AlAt A n c x w S) (fun a' _ => S.length - sliceLen (a'.tmps.getD 3 undef)) rfl rfl rfl ?ahead (fun a' w' hJ' => ?pass)
  case ahead =>
    go_wp2_with fail
    go_wp2_with fail
    go_wp2_with fail
    refine HS.out.mono ?_
    rintro e w2 ⟨g, rfl, hg, hC, hb2⟩
    have HR2 := Lib.hid ((HR.out.below hb2).more hb2.size)
    have HC := Lib.hid hC
    have HB2 := Lib.hid (HB.out.trans (hb2.mono HB.out.size))
    clear hC hb2 hg HS HR HB
    go_wp2_with fail
    exact ⟨[], 0, none, 0, g, w2, _, _, _, _, _, _, _, _, _, _, _, _, _, _, _, _, _, _, _, _, rfl, HPo.out, World.ownsRow_nil _ _ _ _, Below.refl _ _, HB2.out, HC.out, HR2.out⟩
  case pass =>
    clear HS HR HB
    obtain ⟨acc, b, A3, c3, g, w2, u0, u1, u4, u5, u8, u9, u10, u11, u12, u13, u14, u15, u16, u17, u18, u19, u20, u21, u22, u23, rfl, hacc, hown, hb2, hbw, hC, hR⟩ := hJ'
    have hF := first_any g A n c x b w' ((hR.below hb2).more hb2.size) hn (hC.under hb2)
    rw [HSe.out] at hF
    have HF := Lib.hid hF
    have HA := Lib.hid hacc
    have HO := Lib.hid hown
    have HB2 := Lib.hid hb2
    have HBw := Lib.hid hbw
    have HC := Lib.hid hC
    have HR := Lib.hid hR
    clear hacc hown hb2 hbw hC hR hF
    go_wp2_with fail
    refine HF.out.mono ?_
    rintro e w3 ⟨A5, c5, rfl, ho5, hb5⟩
    obtain ⟨pl, pm, pn, pe⟩ := page_step HRi.out HA.out
    obtain ⟨P, hP⟩ : ∃ P, pageOf S b = P := ⟨_, rfl⟩
    obtain ⟨M, hM⟩ : ∃ M, moreOf S b = M := ⟨_, rfl⟩
    rw [hP] at ho5 pl pm pn pe
    rw [hM] at pm pe
    have hown3 := own_under HO.out hb5
    have hsz : acc.length ≤ 1000 := by have h1 := HLe.out; have h2 := congrArg List.length HA.out; rw [List.length_append] at h2; omega
    obtain ⟨k, hk⟩ : ∃ k, P.length = k := ⟨_, rfl⟩
    rw [hk] at ho5
    obtain ⟨v6, w6, hrun, ho6, hg6⟩ := run_appN w3 w2.heap.size (.slice A3 acc.length c3) acc.length (flatN acc) hown3 w3.heap.size A5 k c5 P (RdSn.of_own ho5) (by omega) (by omega) (Nat.le_trans HB2.out.size hb5.size)
    rw [← flatN_append] at ho6
    obtain ⟨A6, c6, rfl⟩ := own_formN ho6
    have hk5 : w6.ownsRow w'.heap.size 35 7 (.slice A5 k c5) k (flatN P) := own_behind ho5 (fun q hq => (HO.out.lt q hq).2) hg6
    have hb6 : Below w2.heap.size w2 w6 := HB2.out.trans ((hb5.mono HB2.out.size).trans (below_row hown3 hg6 (Nat.le_trans HB2.out.size hb5.size)))
    have HN := Lib.hid (next_any A5 k c5 P b w6 (RdSn.of_own hk5) (by omega))
    rw [hP, hM, hk]
    have HRun := Lib.hid hrun
    have HO6 := Lib.hid ho6
    have HB6 := Lib.hid hb6
    have HPm := Lib.hid pm
    have HPn := Lib.hid pn
    have HPe := Lib.hid pe
    have HPk := Lib.hid hk
    clear hrun ho6 hb6 pm pn pe hk hk5 hg6 hown3 ho5 hb5 hP hM pl HF
    go_wp2_with (refine wpList_app (by rfl) _ _ 28 rfl _ _ _ w6 (by rfl) (by rfl) HRun.out ?_)
    refine HN.out.mono ?_
    rintro e w7 ⟨rfl, hb7⟩
    have HO7 := Lib.hid (own_under HO6.out hb7)
    have HB7 := Lib.hid (HB6.out.trans (hb7.mono HB6.out.size))
    clear hb7 HN HO6 HB6 HRun
    cases M with
    | true =>
      have hk3 := HPm.out rfl
      go_wp2_with fail
      have el : acc.length + k = (acc ++ P).length := by rw [List.length_append, HPk.out]
      have HO8 := HO7.out
      rw [el] at HO8
      rw [el]
      have hle : (acc ++ P).length ≤ S.length := by have h2 := congrArg List.length HPn.out; rw [List.length_append] at h2; omega
      have hl3 : acc.length < (acc ++ P).length := by rw [List.length_append]; omega
      go_step3
      exact ⟨rfl, ⟨acc ++ P, nextOf P b, A6, c6, g, w2, _, _, _, _, _, _, _, _, _, _, _, _, _, _, _, _, _, _, _, _, rfl, HPn.out, HO8, HB7.out, HBw.out, HC.out, HR.out⟩, by show S.length - (acc ++ P).length < S.length - acc.length; omega⟩
    | false =>
      have hS := HPe.out rfl
      have el : acc.length + k = S.length := by rw [← hS, List.length_append, HPk.out]
      have HO8 := HO7.out
      rw [el, hS] at HO8
      have HO9 := Lib.hid HO8
      have HEl := Lib.hid el
      clear hS el HO8
      go_wp2_with fail
      simp only [Exit.jump]
      rw [HEl.out]
      go_ret
      exact ⟨A6, c6, rfl, own_weaker HO9.out HBw.out.size, HBw.out.trans (HB7.out.mono HBw.out.size)⟩

end Go.Proofs.Ytdoaakohgmohkaa
