/-
  Texts that the walk of a statement over brains leans on, joined (BrPtr, BrDrop, BrIns, RegTwo, BrKeep, BrKeepP). Conditions: those that each theorem names.
-/
import Derived.Test.YtdaimejlcfhfiaaGreatDoorKQ
import Derived.Test.YtdaimejlcfhfiaaGreatDoorK0
import Derived.Test.YtdaimejlcfhfiaaGreatDoorK1
import Derived.Test.YtdaimejlcfhfiaaGreatDoorK6
import Derived.Test.YtdaimejlcfhfiaaGreatDoorK7
import Derived.Test.YtdaimejlcfhfiaaGreatDoorK9
import Derived.Lib.Overlaps
set_option maxRecDepth 100000

namespace Go.Proofs.YtdaimejlcfhfiaaGreatDoor
open Go.RowKit Go.Shelf

set_option maxHeartbeats 2000000 in
theorem fail_any (p : Br) (a : Ad) (most : Int) (base g : Nat) (w : World) (h : BrIn base g w p a) :
    Calls Tryz.prog 101 #[.pointer (some ⟨g, 20, none⟩), .int .i64 most] w (StPost base g { p with rf := failR p.rf most } w) := by
  obtain ⟨c0, c1, c2, c3, c4, c5, c6, c7, c8, c9, c10, c11, c12, c13, c14, c15, c16, c17, c18, c19, c20, c21, c22, c23, c24, c25, c26⟩ := cells27 h.box
  have f26 := h.box.frozen 26
  obtain ⟨F, hF⟩ : ∃ F, wrap64 (p.rf.fails + 1) = F := ⟨_, rfl⟩
  have h1 := h.set (p' := { p with rf := { p.rf with fails := F } }) 26 (.int .i64 F) rfl rfl rfl rfl
  have s1 := Stp.set h.box (by decide) h.ge 26 (.int .i64 F)
  have g21 := (cells27 h1.box).2.2.2.2.2.2.2.2.2.2.2.2.2.2.2.2.2.2.2.2.2.1
  have g22 := (cells27 h1.box).2.2.2.2.2.2.2.2.2.2.2.2.2.2.2.2.2.2.2.2.2.2.1
  have f22 := h1.box.frozen 22
  have g26 := (cells27 h1.box).2.2.2.2.2.2.2.2.2.2.2.2.2.2.2.2.2.2.2.2.2.2.2.2.2.2
  by_cases hm : most ≤ F
  · have q : decide (most ≤ F) = true := decide_eq_true hm
    have h2 := h1.set (p' := { p with rf := { p.rf with to_ := p.rf.fr, fails := F } }) 22 (.int .i64 p.rf.fr) rfl rfl rfl rfl
    have s2 := s1.trans (Stp.set h1.box (by decide) h1.ge 22 (.int .i64 p.rf.fr))
    have k26 := (cells27 h2.box).2.2.2.2.2.2.2.2.2.2.2.2.2.2.2.2.2.2.2.2.2.2.2.2.2.2
    have kf := h2.box.frozen 26
    have h3 := h2.set (p' := { p with rf := failR p.rf most }) 26 (.int .i64 0) (by rw [show failR p.rf most = { p.rf with to_ := p.rf.fr, fails := 0 } by unfold failR; rw [hF, if_pos hm]]; rfl) rfl rfl rfl
    have s3 := s2.trans (Stp.set h2.box (by decide) h2.ge 26 (.int .i64 0))
    have H3 := Lib.hid h3
    have S3 := Lib.hid s3
    clear h h1 h2 h3 s1 s2 s3 hm c0 c1 c2 c3 c4 c5 c6 c7 c8 c9 c10 c11 c12 c13 c14 c15 c16 c17 c18 c19 c20 c23 c24 c25
    go_enter Tryz.func101, Tryz.ntmps101
    go_wp2_with fail
    go_end0
    exact ⟨rfl, S3.out, _, H3.out⟩
  · have q : decide (most ≤ F) = false := decide_eq_false hm
    have h3 : BrIn base g (w.setCell ⟨g, 26, none⟩ (.int .i64 F)) { p with rf := failR p.rf most } a := by
      rw [show failR p.rf most = { p.rf with fails := F } by unfold failR; rw [hF, if_neg hm]]
      exact h1
    have H3 := Lib.hid h3
    have S3 := Lib.hid s1
    clear h h1 h3 s1 hm c0 c1 c2 c3 c4 c5 c6 c7 c8 c9 c10 c11 c12 c13 c14 c15 c16 c17 c18 c19 c20 c23 c24 c25
    go_enter Tryz.func101, Tryz.ntmps101
    go_wp2_with fail
    go_end0
    exact ⟨rfl, S3.out, _, H3.out⟩

set_option maxHeartbeats 2000000 in
theorem end_any (p : Br) (a : Ad) (st : Int) (base g : Nat) (w : World) (h : BrIn base g w p a) :
    Calls Tryz.prog 105 #[.pointer (some ⟨g, 20, none⟩), .int .u8 st] w (StPost base g { p with rf := { p.rf with st := st, paused := false } } w) := by
  obtain ⟨c0, c1, c2, c3, c4, c5, c6, c7, c8, c9, c10, c11, c12, c13, c14, c15, c16, c17, c18, c19, c20, c21, c22, c23, c24, c25, c26⟩ := cells27 h.box
  have f20 := h.box.frozen 20
  have h1 := h.set (p' := { p with rf := { p.rf with st := st } }) 20 (.int .u8 st) rfl rfl rfl rfl
  have s1 := Stp.set h.box (by decide) h.ge 20 (.int .u8 st)
  have g24 := (cells27 h1.box).2.2.2.2.2.2.2.2.2.2.2.2.2.2.2.2.2.2.2.2.2.2.2.2.1
  have f24 := h1.box.frozen 24
  have h2 := h1.set (p' := { p with rf := { p.rf with st := st, paused := false } }) 24 (.bool false) rfl rfl rfl rfl
  have s2 := s1.trans (Stp.set h1.box (by decide) h1.ge 24 (.bool false))
  have H3 := Lib.hid h2
  have S3 := Lib.hid s2
  clear h h1 h2 s1 s2 c0 c1 c2 c3 c4 c5 c6 c7 c8 c9 c10 c11 c12 c13 c14 c15 c16 c17 c18 c19 c21 c22 c23 c25 c26
  go_enter Tryz.func105, Tryz.ntmps105
  go_wp2_with fail
  go_end0
  exact ⟨rfl, S3.out, _, H3.out⟩

/-- One number of one that is kept is laid anew. -/
theorem BrIn.cell {base g b : Nat} {w : World} {p : Br} {a : Ad} (h : BrIn base g w p a) (hB : a.B = some ⟨b, 0, none⟩) {i j : Nat} {x y : Kp} {u : Value} (hx : p.kps[i]? = some x) (hj : j < 8) (hy : y.vs = x.vs.set j u) :
    w.cell? ⟨b, i * 8 + j, none⟩ = x.vs[j]? ∧ w.frozen? ⟨b, i * 8 + j, none⟩ = false ∧ BrIn base g (w.setCell ⟨b, i * 8 + j, none⟩ u) { p with kps := p.kps.set i y } a ∧ Stp base w (w.setCell ⟨b, i * 8 + j, none⟩ u) := by
  have hi : i < p.kps.length := (List.getElem?_eq_some_iff.1 hx).1
  have ho := h.own.kps
  unfold KpsAt at ho
  obtain ⟨b', cs, hb', hge, hin, hnc, htk⟩ := RowIn.of_own ho (by omega)
  rw [hB] at hb'
  injection hb' with hb'
  injection hb' with hb' _ _
  subst hb'
  have hlt : i * 8 + j < p.kps.length * 8 := by omega
  have hlc : i * 8 + j < cs.length := by rw [hin.len]; omega
  have hcell : cs[i * 8 + j]? = x.vs[j]? := by
    rw [← flatF_at Kp.vs_len hx hj, ← htk, List.getElem?_take, if_pos hlt]
  have hne : g ≠ b := by
    intro e
    subst e
    have := own_apart_F (by decide) h.own.kps h.box
    rw [hB] at this
    exact this rfl
  have hset : w.setCell ⟨b, i * 8 + j, none⟩ u = w.setRow b (cs.set (i * 8 + j) u).toArray := by
    rw [setCell_eq_setRow w b (i * 8 + j) cs.toArray _ _ u hin.hg]
    simp
  have hin2 : RowIn (w.setCell ⟨b, i * 8 + j, none⟩ u) b 47 8 a.d (cs.set (i * 8 + j) u) := by
    rw [hset]
    exact ⟨setRow_heap w b cs.toArray _ _ _ hin.hg, by rw [List.length_set]; exact hin.len, hin.capm⟩
  have hk := Only.set w b (i * 8 + j) u
  have hwb : Whole w b 47 cs.toArray := hin.hg
  refine ⟨?_, ?_, ⟨?_, ⟨hk.own h.own.ms hwb (by decide), hk.own h.own.its hwb (by decide), ?_⟩, h.ge⟩, Stp.set hwb (by decide) hge _ _⟩
  · simp [World.cell?, hin.hg, hcell]
  · simp [World.frozen?, hin.hg]
  · have := hk.far h.box hne
    simp only [brC, List.length_set] at this ⊢
    exact this
  · unfold KpsAt
    simp only [List.length_set]
    rw [hB]
    refine hin2.own hge hnc (by rw [flatF_length Kp.vs_len, List.length_set]) ?_
    rw [List.take_set, htk, flatF_set Kp.vs_len hx hj hy]

set_option maxHeartbeats 2000000 in
theorem change_any (p : Br) (a : Ad) (b i : Nat) (x : Kp) (ph now : Int) (base g : Nat) (w : World) (h : BrIn base g w p a) (hB : a.B = some ⟨b, 0, none⟩) (hx : p.kps[i]? = some x) :
    Calls Tryz.prog 88 #[.pointer (some ⟨b, i * 8, none⟩), .int .u8 ph, .int .i64 now] w (StPost base g { p with kps := p.kps.set i { x with phase := ph, since := now, done := false } } w) := by
  have hi : i < p.kps.length := (List.getElem?_eq_some_iff.1 hx).1
  obtain ⟨c4, f4, h1, s1⟩ := h.cell hB (j := 4) (y := { x with phase := ph }) (u := .int .u8 ph) hx (by omega) rfl
  obtain ⟨c5, f5, h2, s2⟩ := h1.cell hB (i := i) (j := 5) (x := { x with phase := ph }) (y := { x with phase := ph, since := now }) (u := .int .i64 now) (by simp [hi]) (by omega) rfl
  obtain ⟨c7, f7, h3, s3⟩ := h2.cell hB (i := i) (j := 7) (x := { x with phase := ph, since := now }) (y := { x with phase := ph, since := now, done := false }) (u := .bool false) (by simp [hi]) (by omega) rfl
  simp only [Kp.vs, List.getElem?_cons_succ, List.getElem?_cons_zero] at c4 c5 c7
  simp only [List.set_set] at h3
  have H3 := Lib.hid h3
  have S3 := Lib.hid ((s1.trans s2).trans s3)
  clear h h1 h2 h3 s1 s2 s3 hx
  go_enter Tryz.func88, Tryz.ntmps88
  go_wp2_with fail
  go_end0
  exact ⟨rfl, S3.out, _, H3.out⟩

end Go.Proofs.YtdaimejlcfhfiaaGreatDoor

namespace Go.Proofs.YtdaimejlcfhfiaaGreatDoor
open Go.RowKit Go.Shelf

theorem drop_at {l : List Kp} {id : Int} {i : Nat} (h : l.findIdx? (fun x => decide (x.id = id)) = some i) : l.take i ++ l.drop (i + 1) = dropK id l := by
  unfold dropK
  rw [List.eraseP_eq_eraseIdx, h]
  exact (List.eraseIdx_eq_take_drop_succ l i).symm
theorem dropI_at {l : List It} {t : Int} {i : Nat} (h : l.findIdx? (fun x => decide (x.tok = t)) = some i) : l.take i ++ l.drop (i + 1) = dropI t l := by
  unfold dropI
  rw [List.eraseP_eq_eraseIdx, h]
  exact (List.eraseIdx_eq_take_drop_succ l i).symm
theorem findB_some {p : Br} {id : Int} {i : Nat} (h : p.kps.findIdx? (fun x => decide (x.id = id)) = some i) : findB p id = (i : Int) ∧ i < p.kps.length := by
  refine ⟨by simp [findB, h], ?_⟩
  rw [List.findIdx?_eq_some_iff_getElem] at h
  exact h.1
theorem tokenB_some {p : Br} {t : Int} {i : Nat} (h : p.its.findIdx? (fun x => decide (x.tok = t)) = some i) : tokenB p t = (i : Int) ∧ i < p.its.length := by
  refine ⟨by simp [tokenB, h], ?_⟩
  rw [List.findIdx?_eq_some_iff_getElem] at h
  exact h.1

set_option maxHeartbeats 2000000 in
theorem drop_any (p : Br) (a : Ad) (id : Int) (i base g : Nat) (w : World) (h : BrIn base g w p a) (hi : p.kps.findIdx? (fun x => decide (x.id = id)) = some i) (hn : p.kps.length ≤ 1000) :
    Calls Tryz.prog 90 #[.pointer (some ⟨g, 0, none⟩), .int .i64 id] w (StPost base g { p with kps := dropK id p.kps } w) := by
  obtain ⟨hfi, hil⟩ := findB_some hi
  have hbase : base ≤ w.heap.size := Nat.le_trans h.ge (Nat.le_of_lt h.lt)
  have H := Lib.hid h
  have HF := Lib.hid hfi
  have HD := Lib.hid (drop_at hi)
  have HBase := Lib.hid hbase
  clear h hfi hi hbase
  go_enter Tryz.func90, Tryz.ntmps90
  go_wp2_with (refine wpList_load_row (by rfl) 30 _ rfl g (by rfl) 30 _ (0, 0) _ H.out.box Tryz.underlying30 rfl (by kernel_rfl) ?_)
  refine (bfind_any p a id w.heap.size w H.out.own.reads (Nat.le_refl _) hn).mono ?_
  rintro e w1 ⟨rfl, hb1⟩
  rw [HF.out]
  have H1 := Lib.hid (H.out.under hb1)
  have HS1 := Lib.hid (Stp.of_below hb1 HBase.out)
  clear hb1 H
  obtain ⟨c0, c1, c2, c3, c4, c5, c6, c7, c8, c9, c10, c11, c12, c13, c14, c15, c16, c17, c18, c19, c20, c21, c22, c23, c24, c25, c26⟩ := cells27 H1.out.box
  have hwi : IntKind.i64.wrap ((i : Int) + 1) = (i : Int) + 1 := by rw [IntKind.wrap_i64]; omega
  go_wp2_with fail
  refine (delK_any a.B p.kps.length a.d i p.kps base w1 H1.out.own.kps rfl hil hn).mono ?_
  rintro e w2 ⟨rfl, ho, hg⟩
  rw [HD.out] at ho
  have hln : (dropK id p.kps).length = p.kps.length - 1 := by
    rw [← HD.out, List.length_append, List.length_take, List.length_drop]; omega
  have HLn := Lib.hid hln
  have HO := Lib.hid ho
  have HG := Lib.hid hg
  have hbx := H1.out.box.grown hg (Ne.symm (own_apart_F (by decide) H1.out.own.kps H1.out.box))
  have f19 := hbx.frozen 19
  have z19 := hbx.cell 19
  simp only [List.getElem?_toArray, List.getElem?_cons_zero, List.getElem?_cons_succ] at z19
  have HX := Lib.hid hbx
  have HS2 := Lib.hid (HS1.out.trans (Stp.own H1.out.own.kps (by decide) (Nat.le_trans HBase.out HS1.out.size) hg))
  clear ho hg hln hbx c0 c1 c2 c3 c4 c5 c6 c7 c8 c9 c10 c11 c12 c13 c14 c15 c16 c17 c18 c19 c20 c21 c22 c23 c24 c25 c26
  go_wp2_with fail
  go_end0
  have hfin := H1.out.kps HG.out (l := dropK id p.kps) (A' := a.B) (c' := a.d) (by rw [HLn.out]; exact HO.out)
  rw [HLn.out] at hfin
  exact ⟨rfl, HS2.out.trans (Stp.set HX.out (by decide) H1.out.ge _ _), _, hfin⟩

end Go.Proofs.YtdaimejlcfhfiaaGreatDoor

namespace Go.Proofs.YtdaimejlcfhfiaaGreatDoor
open Go.RowKit Go.Shelf

def InsPost (A : Option Addr) (n c i : Nat) (l : List Kp) (x : Kp) (base : Nat) (w : World) (e : Ending) (w' : World) : Prop :=
  ∃ A' c', e = .returned (.slice A' (n + 1) c') ∧ KpsAt base w' (.slice A' (n + 1) c') (l.take i ++ [x] ++ l.drop i) ∧ w.grownBy w' (Value.slice A n c).ownBlock
abbrev kpC (x : Kp) : Array Value := #[.int .i64 x.id, .int .i64 x.tok, .int .i64 x.ver, .int .i64 x.zone, .int .u8 x.phase, .int .i64 x.since, .bool x.guard, .bool x.done]
theorem rdK_lit {W : World} {b : Nat} {x : Kp} (h : Whole W b 47 (kpC x)) (B : Nat) (hB : b < B) : RdK W B (some ⟨b, 0, none⟩) 1 [x] := by
  refine ⟨rfl, fun _ => ⟨b, 0, rfl, hB, ?_⟩⟩
  rintro (_ | j) y hy i hi
  · simp only [List.getElem?_cons_zero, Option.some.injEq] at hy
    subst hy
    simp only [Nat.zero_mul, Nat.zero_add]
    rcases (by omega : i = 0 ∨ i = 1 ∨ i = 2 ∨ i = 3 ∨ i = 4 ∨ i = 5 ∨ i = 6 ∨ i = 7) with rfl | rfl | rfl | rfl | rfl | rfl | rfl | rfl
    · exact h.cell 0
    · exact h.cell 1
    · exact h.cell 2
    · exact h.cell 3
    · exact h.cell 4
    · exact h.cell 5
    · exact h.cell 6
    · exact h.cell 7
  · simp at hy

set_option maxHeartbeats 2000000 in
/-- At the end. -/
theorem insK_end (A : Option Addr) (n c : Nat) (l : List Kp) (x : Kp) (vb base : Nat) (w : World) (h : KpsAt base w (.slice A n c) l) (hl : l.length = n) (hv : Whole w vb 47 (kpC x)) (hn : n ≤ 1000) (hbase : base ≤ w.heap.size) :
    Calls Tryz.prog 121 #[.slice A n c, .int .i64 (n : Int), .slice (some ⟨vb, 0, none⟩) 1 1] w (InsPost A n c n l x base w) := by
  obtain ⟨A1, hrest, _⟩ := run_restF Tryz.underlying26 rfl info_kp A n c n (by omega)
  obtain ⟨A', c', w', hrun, ho, hg, _⟩ := kps_app w base _ l h w.heap.size (some ⟨vb, 0, none⟩) 1 1 [x] (rdK_lit hv _ hv.lt) (by rw [hl]; omega) hbase
  rw [hl] at hrun ho
  have HO := Lib.hid (show KpsAt base w' (.slice A' (n + 1) c') (l.take n ++ [x] ++ l.drop n) ∧ w.grownBy w' (Value.slice A n c).ownBlock from ⟨by rw [← hl, List.take_length, List.drop_length, List.append_nil, hl]; exact ho, hg⟩)
  have HRun := Lib.hid hrun
  have HRe := Lib.hid hrest
  have hne : ((n : Int) == (n : Int)) = true := by simp
  clear h hv hrest hrun ho hg
  have hrest := HRe.out w
  go_enter Tryz.func121, Tryz.ntmps121
  go_wp2_with (at_builtin; refine wpList_app (by rfl) _ _ 26 rfl _ _ _ w' (by rfl) (by rfl) HRun.out ?_)
  go_ret
  exact ⟨A', c', rfl, HO.out.1, HO.out.2⟩

set_option maxHeartbeats 2000000 in
/-- Ahead of others, where there is room. -/
theorem insK_room (A : Option Addr) (n c i : Nat) (l : List Kp) (x : Kp) (vb base : Nat) (w : World) (h : KpsAt base w (.slice A n c) l) (hl : l.length = n) (hv : Whole w vb 47 (kpC x)) (hap : (Value.slice A n c).ownBlock ≠ some vb) (hi : i < n) (hroom : n + 1 ≤ c) (hn : n ≤ 1000) :
    Calls Tryz.prog 121 #[.slice A n c, .int .i64 (i : Int), .slice (some ⟨vb, 0, none⟩) 1 1] w (InsPost A n c i l x base w) := by
  have hr := KpsAt.read (by rw [hl]; exact h)
  unfold KpsAt at h
  rw [hl] at h
  obtain ⟨g, cs, rfl, hb, hin, hnc, htk⟩ := RowIn.of_own h (by omega)
  rw [hl] at hr
  have hgv : vb ≠ g := fun e => hap (by simp [Value.ownBlock, e])
  obtain ⟨i0, hi0, hz0, hz1, hz2⟩ := info_parts info_kp
  have hcm : c ≤ 9223372036854775807 := hin.capm
  obtain ⟨A1, hrest1, _⟩ := run_restF Tryz.underlying26 rfl info_kp (some ⟨g, 0, none⟩) n c i (by omega)
  have hhead := fun W => run_headF Tryz.underlying26 rfl info_kp (some ⟨g, 0, none⟩) n c (n + 1) hroom W
  obtain ⟨A2, hrest2, hA2⟩ := run_restF Tryz.underlying26 rfl info_kp (some ⟨g, 0, none⟩) (n + 1) c (i + 1) (by omega)
  obtain rfl := hA2 ⟨by omega, hroom⟩ g 0 rfl
  obtain ⟨A3, hrest3, hA3⟩ := run_restF Tryz.underlying26 rfl info_kp (some ⟨g, 0, none⟩) (n + 1) c i (by omega)
  obtain rfl := hA3 ⟨by omega, hroom⟩ g 0 rfl
  simp only [Nat.zero_add] at hrest2 hrest3
  have hsz8 : (Tryz.prog.info? 47).map (·.size) = some 8 := by rw [hi0]; simp [hz1]
  have hsrc : RdK w w.heap.size (some ⟨g, i * 8, none⟩) (n - i) (l.drop i) := hr.drop (by omega) (fun _ b off e => by cases e; simp)
  obtain ⟨w1, hrun1, hin1, hed1⟩ := run_copy_in (size := 8) (ty := 3) (dT := 26) (sT := 26) (o := i + 1) (dLen := n + 1 - (i + 1)) (dCap := c - (i + 1)) (sLen := n + 1 - i) (sCap := c - i) Tryz.underlying26 hsz8 (by omega) Kp.vs_len Kp.vs_one (hin.drewN 1) (hsrc.below (below_dN w 1)) (by simp only [Nat.min_def]; split <;> omega) (by omega)
  have hv1 : Whole w1 vb 47 (kpC x) := (hv.grown (row := some g) ((Edit.drewN g w 1).trans hed1).grown (by simpa using hgv))
  obtain ⟨w2, hrun2, hin2, hed2⟩ := run_copy_in (size := 8) (ty := 3) (dT := 26) (sT := 26) (o := i) (dLen := n + 1 - i) (dCap := c - i) (sLen := 1) (sCap := 1) Tryz.underlying26 hsz8 (by omega) Kp.vs_len Kp.vs_one hin1 (rdK_lit hv1 _ hv1.lt) (by simp only [Nat.min_def]; split <;> omega) (by omega)
  have htk2 : cs.take (i * 8) = (l.take i).flatMap Kp.vs := by
    have h1 : (cs.take (n * 8)).take (i * 8) = cs.take (i * 8) := by
      rw [List.take_take, Nat.min_eq_left (Nat.mul_le_mul_right _ (by omega))]
    rw [← h1, htk]
    have h2 : l.flatMap Kp.vs = (l.take i).flatMap Kp.vs ++ (l.drop i).flatMap Kp.vs := by rw [← List.flatMap_append, List.take_append_drop]
    rw [h2, List.take_left' (by rw [flatF_length Kp.vs_len, List.length_take]; congr 1; omega)]
  have hfin := seg_ins (l := l) (x := x) (i := i) Kp.vs_len (by omega) htk2 (by rw [hl, hin.len]; exact Nat.mul_le_mul_right _ hroom)
  rw [hl] at hfin
  have hlen : (l.take i ++ [x] ++ l.drop i).length = n + 1 := by simp only [List.length_append, List.length_take, List.length_drop, List.length_singleton]; omega
  have HO := Lib.hid (show KpsAt base w2 (.slice (some ⟨g, 0, none⟩) (n + 1) c) (l.take i ++ [x] ++ l.drop i) ∧ w.grownBy w2 (some g) from by
    refine ⟨?_, ((Edit.drewN g w 1).trans (hed1.trans hed2)).grown⟩
    unfold KpsAt
    rw [hlen]
    exact hin2.own hb (by omega) (by rw [flatF_length Kp.vs_len, hlen]) hfin)
  have hov : ∀ lb cb, (callFunc 126 #[.slice (some ⟨vb, 0, none⟩) 1 1, .slice (some ⟨g, (i + 1) * 8, none⟩) lb cb]).run Tryz.prog w = .ok (.value (.bool false)) w := fun lb cb => by
    rw [run_callFunc_extern Tryz.func126 (by kernel_rfl) (by kernel_rfl) (by kernel_rfl) (e := Extern.SlicesOverlaps.overlaps #[26, 26] #[4]) (by kernel_rfl),
      Lib.run_overlaps_apart w 26 4 47 Tryz.underlying26 8 (fun w => by simp [Go.sizeOf, typeInfo, hi0, hz1]) ⟨vb, 0, none⟩ ⟨g, (i + 1) * 8, none⟩ 1 1 lb cb hgv 47 47 8 cs.length (by unfold Whole at hv; simp [World.shape?, hv]) (by simp [World.shape?, hin.hg]) (by rw [hin.len]; omega) (hv.frozen 0) (by unfold Whole at hv; simp [World.frozen?, hv])]
    rfl
  have HR1 := Lib.hid hrest1
  have HH := Lib.hid hhead
  have HR2 := Lib.hid hrest2
  have HR3 := Lib.hid hrest3
  have HRun1 := Lib.hid hrun1
  have HRun2 := Lib.hid hrun2
  have HOv := Lib.hid hov
  have hne : ((i : Int) == (n : Int)) = false := by rw [beq_eq_false_iff_ne]; omega
  have hcap : decide ((c : Int) < (n : Int) + 1) = false := by simp; omega
  have hiI : ((i + 1 : Nat) : Int) = (i : Int) + 1 := by omega
  have hnI : ((n + 1 : Nat) : Int) = (n : Int) + 1 := by omega
  have hwi : IntKind.i64.wrap ((i : Int) + 1) = (i : Int) + 1 := by rw [IntKind.wrap_i64]; omega
  have HII := Lib.hid hiI
  have HNI := Lib.hid hnI
  clear hr h hin hnc htk hrest1 hhead hrest2 hrest3 hsrc hrun1 hin1 hed1 hv1 hrun2 hin2 hed2 htk2 hfin hlen hov hA2 hA3 hiI hnI
  have hrest1 := HR1.out w
  have hhead := HH.out w
  rw [HNI.out] at hhead
  have hrest2 := HR2.out w
  rw [HII.out] at hrest2
  have hov := HOv.out
  go_enter Tryz.func121, Tryz.ntmps121
  go_wp2_with fail
  have HT : Hid True := Lib.hid trivial
  refine wp_region_T (ls := []) (T := (fun _ => True)) (by kernel_rfl) ?_
  refine kP 0 ?_ rfl ?_ (fun _ => HT.out) ?_
  rotate_left
  · intro V'; go_simp <;> with_reducible rfl
  simp only [Act.put, lA, lZ, lS]
  refine kP 1 ?_ rfl ?_ (fun _ => HT.out) ?_
  rotate_left
  · intro V'; go_simp <;> with_reducible rfl
  simp only [Act.put, lA, lZ, lS]
  refine kP 2 ?_ rfl ?_ (fun _ => HT.out) ?_
  rotate_left
  · intro V'; go_simp <;> with_reducible rfl
  simp only [Act.put, lA, lZ, lS]
  refine kP 3 (.int .i64 ((i : Int) + 1)) rfl ?_ (fun _ => HT.out) ?_
  · intro V'; go_simp <;> with_reducible rfl
  simp only [Act.put, lA, lZ, lS]
  refine kP 4 (.slice (some ⟨g, (i + 1) * 8, none⟩) (n + 1 - (i + 1)) (c - (i + 1))) rfl ?_ (fun _ => HT.out) ?_
  · intro V'; have hs := HR2.out V'; rw [HII.out] at hs; go_simp <;> with_reducible rfl
  simp only [Act.put, lA, lZ, lS]
  refine kP 5 ?_ rfl ?_ (fun _ => HT.out) ?_
  rotate_left
  · intro V'; go_simp <;> with_reducible rfl
  simp only [Act.put, lA, lZ, lS]
  refine kP 6 ?_ rfl ?_ (fun _ => HT.out) ?_
  rotate_left
  · intro V'; go_simp <;> with_reducible rfl
  simp only [Act.put, lA, lZ, lS]
  refine kP 7 (.slice (some ⟨g, i * 8, none⟩) (n + 1 - i) (c - i)) rfl ?_ (fun _ => HT.out) ?_
  · intro V'; have hs := HR3.out V'; go_simp <;> with_reducible rfl
  simp only [Act.put, lA, lZ, lS]
  refine oneT (i := 8) rfl (by kernel_rfl) (by rfl) (fun K hK => ?_)
  refine wp_copyH (by rfl) (by rfl) HRun1.out ?_
  simp only [Act.put, lA, lZ, lS]
  refine hK.out _ _ (fun _ => HT.out) ?_
  clear hK K
  refine doneT (by kernel_rfl) ?_ _
  have hrest3 := HR3.out w1
  have hrun2 := HRun2.out
  go_wp2_with fail
  go_ret
  exact ⟨_, _, rfl, HO.out.1, HO.out.2⟩

theorem wpList_app2 {P : Program} {w : World} {ops : Array Oper} {rest : List Oper} {o : Oper} {a : Act} {Q : Exit → Act → World → Prop} (hg : o.guard = none) (s x : Operand) (t u : TypeId)
    (ho : o.op = .call { callee := .builtin .append, args := #[s, x], argTypes := #[t, u] }) (vs vx v' : Value) (w' : World) (hs : a.eval s = vs) (hx : a.eval x = vx)
    (hr : (Builtin.append_ #[t, u] o.type #[vs, vx]).run P w = .ok v' w') (h : wpList P ops Q rest (a.put o.dst v') w') : wpList P ops Q (o :: rest) a w :=
  wpList_plain hg fun K hK => by
    unfold Oper.wp execOp
    simp only [ho, resolve, invoke, builtin, Sem.run_bind, Sem.run_pure, Result.andThen_ok, List.map_toArray, List.map_cons, List.map_nil, hs, hx, hr]
    exact hK _ _ h

set_option maxHeartbeats 2000000 in
/-- Ahead of others, where there is no room: a new row. -/
theorem insK_grow (A : Option Addr) (n c i : Nat) (l : List Kp) (x : Kp) (vb base : Nat) (w : World) (h : KpsAt base w (.slice A n c) l) (hl : l.length = n) (hv : Whole w vb 47 (kpC x)) (hi : i < n) (hroom : c < n + 1) (hn : n ≤ 1000) (hbase : base ≤ w.heap.size) :
    Calls Tryz.prog 121 #[.slice A n c, .int .i64 (i : Int), .slice (some ⟨vb, 0, none⟩) 1 1] w (InsPost A n c i l x base w) := by
  have hr := KpsAt.read (by rw [hl]; exact h)
  unfold KpsAt at h
  rw [hl] at h
  obtain ⟨g, cs, rfl, hb, hin, hnc, htk⟩ := RowIn.of_own h (by omega)
  rw [hl] at hr
  obtain rfl : c = n := by omega
  obtain ⟨i0, hi0, hz0, hz1, hz2⟩ := info_parts info_kp
  have hgw : g < w.heap.size := (Array.getElem?_eq_some_iff.1 hin.hg).1
  obtain ⟨A1, hrest1, hA1⟩ := run_restF Tryz.underlying26 rfl info_kp (some ⟨g, 0, none⟩) c c i (by omega)
  obtain rfl := hA1 ⟨by omega, by omega⟩ g 0 rfl
  simp only [Nat.zero_add] at hrest1
  have hhead := fun W => run_headF Tryz.underlying26 rfl info_kp (some ⟨g, 0, none⟩) c c i (by omega) W
  have htki : RdK w w.heap.size (some ⟨g, 0, none⟩) i (l.take i) := hr.take (by omega)
  have hold : (Builtin.firstCells i0.size i (.slice (some ⟨g, 0, none⟩) i c)).run Tryz.prog w.drew = .ok ((l.take i).flatMap Kp.vs).toArray w.drew :=
    run_firstCells_some w.drew i0.size i ⟨g, 0, none⟩ i c _ (by rw [flatF_length Kp.vs_len, List.length_take, hz1]; congr 1; omega) (fun j v hj => RdF.cells Kp.vs_len (by omega) (htki.below (below_dN w 1)) j v hj)
  have hap := Lib.run_append_grow_zeros (P := Tryz.prog) w 26 3 26 47 i0 _ .i64 .i64 Tryz.underlying26 Tryz.underlying3 hi0 hz0 (some ⟨g, 0, none⟩) i c _ hold (c + 1 - i) (by omega) (by omega) (by omega) (by omega) (by rw [hz2]; omega) (by rw [hz2, show i + (c + 1 - i) = c + 1 by omega]; exact growslice_fits (by omega) (by omega))
  rw [show i + (c + 1 - i) = c + 1 by omega] at hap
  have hge := grownCap_ge w (c + 1) c 47
  have hgm := grownCap_le_maxLen w (c + 1) c 47 (by unfold maxLen; omega)
  revert hap hge hgm
  generalize grownCap w (c + 1) c 47 = G
  intro hap hge hgm
  have hG63 : G ≤ 9223372036854775807 := hgm
  obtain ⟨zs, hzs⟩ : ∃ zs, zs = (Builtin.zeroCells (Value.agg (Kp.vs ⟨0, 0, 0, 0, 0, 0, false, false⟩).toArray).cells (c + 1 - i)).toList ++ (Builtin.zeroCells (Value.agg (Kp.vs ⟨0, 0, 0, 0, 0, 0, false, false⟩).toArray).cells (G - (c + 1))).toList := ⟨_, rfl⟩
  have hrow : (((l.take i).flatMap Kp.vs).toArray ++ Builtin.zeroCells (Value.agg (Kp.vs ⟨0, 0, 0, 0, 0, 0, false, false⟩).toArray).cells (c + 1 - i) ++ Builtin.zeroCells (Value.agg (Kp.vs ⟨0, 0, 0, 0, 0, 0, false, false⟩).toArray).cells (G - (c + 1))) = ((l.take i).flatMap Kp.vs ++ zs).toArray := by
    rw [hzs]
    apply Array.ext'
    simp
  have hzl : zs.length = (G - i) * 8 := by
    rw [hzs, List.length_append, Array.length_toList, Array.length_toList, size_zeroCells, size_zeroCells]
    show (c + 1 - i) * 8 + (G - (c + 1)) * 8 = (G - i) * 8
    omega
  rw [hrow] at hap
  clear hrow hzs
  obtain ⟨w1, hw1⟩ : ∃ w1, w.drew.alloc (.cells ((l.take i).flatMap Kp.vs ++ zs).toArray 47) = w1 := ⟨_, rfl⟩
  rw [hw1] at hap
  have hb1 : Below w.heap.size w w1 := by rw [← hw1]; exact (below_dN w 1).alloc (Nat.le_refl _) _
  have hin0 : RowIn w1 w.heap.size 47 8 G ((l.take i).flatMap Kp.vs ++ zs) := by
    refine ⟨by rw [← hw1]; exact heap_alloc_new w.drew _, ?_, hgm⟩
    rw [List.length_append, flatF_length Kp.vs_len, hzl, List.length_take, ← Nat.add_mul]
    congr 1
    omega
  have hsz8 : (Tryz.prog.info? 47).map (·.size) = some 8 := by rw [hi0]; simp [hz1]
  have hv1 : Whole w1 vb 47 (kpC x) := hv.under hb1
  obtain ⟨w2, hrun2, hin2, hed2⟩ := run_copy_in (size := 8) (ty := 3) (dT := 26) (sT := 26) (o := i) (dLen := c + 1 - i) (dCap := G - i) (sLen := 1) (sCap := 1) Tryz.underlying26 hsz8 (by omega) Kp.vs_len Kp.vs_one hin0 (rdK_lit hv1 _ hv1.lt) (by simp only [Nat.min_def]; split <;> omega) (by omega)
  have hb2 : Below w.heap.size w w2 := hb1.grown hed2.grown hb1.size (fun k e => by cases e; exact Nat.le_refl _)
  have hsrc : RdK w2.drew w.heap.size (some ⟨g, i * 8, none⟩) (c - i) (l.drop i) := ((hr.drop (by omega) (fun _ b off e => by cases e; simp)).below hb2).below (below_dN w2 1)
  obtain ⟨w3, hrun3, hin3, hed3⟩ := run_copy_in (size := 8) (ty := 3) (dT := 26) (sT := 26) (o := i + 1) (dLen := c + 1 - (i + 1)) (dCap := G - (i + 1)) (sLen := c - i) (sCap := c - i) Tryz.underlying26 hsz8 (by omega) Kp.vs_len Kp.vs_one (hin2.drewN 1) hsrc (by simp only [Nat.min_def]; split <;> omega) (by omega)
  have hb3 : w.grownBy w3 (some g) := by
    have := hb2.grown ((Edit.drewN w.heap.size w2 1).trans hed3).grown hb2.size (fun k e => by cases e; exact Nat.le_refl _)
    exact ⟨this.os, this.tape, this.output, this.size, fun j hj _ => this.block j hj⟩
  have hfin := seg_ins2 (l := l) (x := x) (i := i) (cs := (l.take i).flatMap Kp.vs ++ zs) Kp.vs_len (by omega) (List.take_left' (by rw [flatF_length Kp.vs_len, List.length_take]; congr 1; omega))
  rw [hl] at hfin
  have hlen : (l.take i ++ [x] ++ l.drop i).length = c + 1 := by simp only [List.length_append, List.length_take, List.length_drop, List.length_singleton]; omega
  have HO := Lib.hid (show KpsAt base w3 (.slice (some ⟨w.heap.size, 0, none⟩) (c + 1) G) (l.take i ++ [x] ++ l.drop i) ∧ w.grownBy w3 (some g) from by
    refine ⟨?_, hb3⟩
    unfold KpsAt
    rw [hlen]
    exact hin3.own hbase (by omega) (by rw [flatF_length Kp.vs_len, hlen]) hfin)
  obtain ⟨A2, hrest2, hA2⟩ := run_restF Tryz.underlying26 rfl info_kp (some ⟨w.heap.size, 0, none⟩) (c + 1) G i (by omega)
  obtain rfl := hA2 ⟨by omega, hge⟩ w.heap.size 0 rfl
  obtain ⟨A3, hrest3, hA3⟩ := run_restF Tryz.underlying26 rfl info_kp (some ⟨w.heap.size, 0, none⟩) (c + 1) G (i + 1) (by omega)
  obtain rfl := hA3 ⟨by omega, hge⟩ w.heap.size 0 rfl
  simp only [Nat.zero_add] at hrest2 hrest3
  have hkI : ((c + 1 - i : Nat) : Int) = (c : Int) + 1 - (i : Int) := by omega
  rw [hkI] at hap
  have HR1 := Lib.hid hrest1
  have HH := Lib.hid hhead
  have HR2 := Lib.hid hrest2
  have HR3 := Lib.hid hrest3
  have HAp := Lib.hid hap
  have HRun2 := Lib.hid hrun2
  have HRun3 := Lib.hid hrun3
  have hne : ((i : Int) == (c : Int)) = false := by rw [beq_eq_false_iff_ne]; omega
  have hcap : decide ((c : Int) < (c : Int) + 1) = true := by simp; omega
  have hwr : IntKind.i64.wrap ((c : Int) + 1 - (i : Int)) = (c : Int) + 1 - (i : Int) := by rw [IntKind.wrap_i64]; omega
  have hwi : IntKind.i64.wrap ((i : Int) + 1) = (i : Int) + 1 := by rw [IntKind.wrap_i64]; omega
  have HII := Lib.hid (show ((i + 1 : Nat) : Int) = (i : Int) + 1 by omega)
  clear hr h hin hnc htk hrest1 hhead hrest2 hrest3 hsrc hin0 hv1 hrun2 hin2 hed2 hrun3 hin3 hed3 hfin hlen hA1 hA2 hA3 htki hold hap hb1 hb2 hb3 hzl hw1 hge hgm hkI
  have hrest1 := HR1.out w
  have hhead := HH.out w
  have hap := HAp.out
  go_enter Tryz.func121, Tryz.ntmps121
  go_wp2_with (at_builtin; refine wpList_app2 (by rfl) _ _ 26 3 rfl _ _ _ w1 (by rfl) (by rfl) HAp.out ?_; have hrest2 := HR2.out w1; have hrun2 := HRun2.out)
  have HT : Hid True := Lib.hid trivial
  refine wp_region_T (ls := []) (T := (fun _ => True)) (by kernel_rfl) ?_
  refine kP 0 ?_ rfl ?_ (fun _ => HT.out) ?_
  rotate_left
  · intro V'; go_simp <;> with_reducible rfl
  simp only [Act.put, lA, lZ, lS]
  refine kP 1 ?_ rfl ?_ (fun _ => HT.out) ?_
  rotate_left
  · intro V'; go_simp <;> with_reducible rfl
  simp only [Act.put, lA, lZ, lS]
  refine kP 2 ?_ rfl ?_ (fun _ => HT.out) ?_
  rotate_left
  · intro V'; go_simp <;> with_reducible rfl
  simp only [Act.put, lA, lZ, lS]
  refine kP 3 (.int .i64 ((i : Int) + 1)) rfl ?_ (fun _ => HT.out) ?_
  · intro V'; go_simp <;> with_reducible rfl
  simp only [Act.put, lA, lZ, lS]
  refine kP 4 (.slice (some ⟨w.heap.size, (i + 1) * 8, none⟩) (c + 1 - (i + 1)) (G - (i + 1))) rfl ?_ (fun _ => HT.out) ?_
  · intro V'; have hs := HR3.out V'; rw [HII.out] at hs; go_simp <;> with_reducible rfl
  simp only [Act.put, lA, lZ, lS]
  refine kP 5 ?_ rfl ?_ (fun _ => HT.out) ?_
  rotate_left
  · intro V'; go_simp <;> with_reducible rfl
  simp only [Act.put, lA, lZ, lS]
  refine kP 6 ?_ rfl ?_ (fun _ => HT.out) ?_
  rotate_left
  · intro V'; go_simp <;> with_reducible rfl
  simp only [Act.put, lA, lZ, lS]
  refine kP 7 (.slice (some ⟨g, i * 8, none⟩) (c - i) (c - i)) rfl ?_ (fun _ => HT.out) ?_
  · intro V'; have hs := HR1.out V'; go_simp <;> with_reducible rfl
  simp only [Act.put, lA, lZ, lS]
  refine oneT (i := 8) rfl (by kernel_rfl) (by rfl) (fun K hK => ?_)
  refine wp_copyH (by rfl) (by rfl) HRun3.out ?_
  simp only [Act.put, lA, lZ, lS]
  refine hK.out _ _ (fun _ => HT.out) ?_
  clear hK K
  refine doneT (by kernel_rfl) ?_ _
  go_wp2_with fail
  go_ret
  exact ⟨_, _, rfl, HO.out.1, HO.out.2⟩

theorem insK_any (A : Option Addr) (n c i : Nat) (l : List Kp) (x : Kp) (vb base : Nat) (w : World) (h : KpsAt base w (.slice A n c) l) (hl : l.length = n) (hv : Whole w vb 47 (kpC x)) (hap : (Value.slice A n c).ownBlock ≠ some vb) (hi : i ≤ n) (hn : n ≤ 1000) (hbase : base ≤ w.heap.size) :
    Calls Tryz.prog 121 #[.slice A n c, .int .i64 (i : Int), .slice (some ⟨vb, 0, none⟩) 1 1] w (InsPost A n c i l x base w) := by
  rcases Nat.lt_or_eq_of_le hi with h1 | rfl
  · rcases Nat.lt_or_ge c (n + 1) with h2 | h2
    · exact insK_grow A n c i l x vb base w h hl hv h1 h2 hn hbase
    · exact insK_room A n c i l x vb base w h hl hv hap h1 h2 hn
  · exact insK_end A i c l x vb base w h hl hv hn hbase

end Go.Proofs.YtdaimejlcfhfiaaGreatDoor

namespace Go.Proofs.YtdaimejlcfhfiaaGreatDoor
open Go.RowKit Go.Shelf

section
variable {P : Program} {ops : Array Oper} {Q : Exit → Act → World → Prop} {md : Region.Mode} {ls : List Nat} {T : World → Prop} {listed : Array Bool} {a : Act} {w : World} {fuel : Nat} {i j : Nat}
variable {d d' : Option Tmp} {op op' : Op} {t t' : TypeId} {pos pos' : String} {after after' : Array Edge} {g g' : Option (Nat × Bool)}
/-- Two operations may come up: the walk goes on behind either. -/
theorem twoT (hi : ops[i]? = some { dst := d, op := op, type := t, pos := pos, after := after, guard := g }) (hj : ops[j]? = some { dst := d', op := op', type := t', pos := pos', after := after', guard := g' }) (hr : Region.ready md ops listed = [i, j])
    (hw : Region.wanted { dst := d, op := op, type := t, pos := pos, after := after, guard := g } (yielded ops a.tmps) = true)
    (hw' : Region.wanted { dst := d', op := op', type := t', pos := pos', after := after', guard := g' } (yielded ops a.tmps) = true)
    (h : ∀ K' : Act → World → Prop, Shut (∀ a w, (fresh ls (listed.setIfInBounds i true) = true → T w) → wpAnyT P md ops Q ls T fuel (listed.setIfInBounds i true) a w → K' a w) → ({ dst := d, op := op, type := t, pos := pos, after := after, guard := g } : Oper).wp P a w K' Q)
    (h' : ∀ K' : Act → World → Prop, Shut (∀ a w, (fresh ls (listed.setIfInBounds j true) = true → T w) → wpAnyT P md ops Q ls T fuel (listed.setIfInBounds j true) a w → K' a w) → ({ dst := d', op := op', type := t', pos := pos', after := after', guard := g' } : Oper).wp P a w K' Q) : wpAnyT P md ops Q ls T (fuel + 1) listed a w := by
  refine ⟨fun h0 => (by rw [hr] at h0; cases h0), fun k hk => ?_⟩
  rw [hr] at hk
  simp only [List.mem_cons, List.not_mem_nil, or_false] at hk
  rcases hk with rfl | rfl
  · exact wpOp_step hi (fun K' hK => by rw [if_pos hw]; exact h K' (fun a w hT hW => hK a w ⟨hT, hW⟩))
  · exact wpOp_step hj (fun K' hK => by rw [if_pos hw']; exact h' K' (fun a w hT hW => hK a w ⟨hT, hW⟩))
end

end Go.Proofs.YtdaimejlcfhfiaaGreatDoor

namespace Go.Proofs.YtdaimejlcfhfiaaGreatDoor
open Go.RowKit Go.Shelf

theorem putK_at {l : List Kp} {x : Kp} {j : Nat} (h1 : ∀ y ∈ l.take j, y.id ≤ x.id) (h2 : ∀ y, l[j]? = some y → ¬ y.id ≤ x.id) : putK l x = l.take j ++ [x] ++ l.drop j := by
  induction l generalizing j with
  | nil => simp [putK]
  | cons a l ih =>
    cases j with
    | zero =>
      have ha := h2 a rfl
      simp [putK, ha]
    | succ j =>
      have ha := h1 a (by simp)
      have e : putK (a :: l) x = a :: putK l x := by simp [putK, ha]
      rw [e, ih (j := j) (fun y hy => h1 y (by simp only [List.take_succ_cons, List.mem_cons]; exact .inr hy)) (fun y hy => h2 y (by simpa using hy))]
      simp
theorem own_capF {w : World} {base size n c : Nat} {e : TypeId} {A : Option Addr} {xs : List Value} (h : w.ownsRow base e size (.slice A n c) n xs) : n ≤ c := by
  rcases h.2 with ⟨h1, h2⟩ | ⟨g, cap, cur, h1, _, _, h2, _⟩
  · omega
  · injection h1 with _ _ h3
    omega
theorem set19L {w : World} {g : Nat} {p : Br} {a : Ad} (h : Whole w g 30 (brC p a)) (l : List Kp) (B : Option Addr) (d : Nat) : Whole (w.setCell ⟨g, 19, none⟩ (.slice B l.length d)) g 30 (brC { p with kps := l } ⟨a.C, a.e, a.A, a.c, B, d⟩) := by
  have h1 := h.set 19 (.slice B l.length d)
  simp only [List.setIfInBounds_toArray, List.set_cons_zero, List.set_cons_succ] at h1
  exact h1
theorem rdK_whole {W : World} {b : Nat} {x : Kp} (h : Whole W b 47 #[.int .i64 x.id, .int .i64 x.tok, .int .i64 x.ver, .int .i64 x.zone, .int .u8 x.phase, .int .i64 x.since, .bool x.guard, .bool x.done]) : RdK W (b + 1) (some ⟨b, 0, none⟩) 1 [x] := by
  refine ⟨rfl, fun _ => ⟨b, 0, rfl, by omega, ?_⟩⟩
  rintro (_ | j) y hy i hi
  · simp only [List.getElem?_cons_zero, Option.some.injEq] at hy
    subst hy
    simp only [Nat.zero_mul, Nat.zero_add]
    rcases (by omega : i = 0 ∨ i = 1 ∨ i = 2 ∨ i = 3 ∨ i = 4 ∨ i = 5 ∨ i = 6 ∨ i = 7) with rfl | rfl | rfl | rfl | rfl | rfl | rfl | rfl
    · exact h.cell 0
    · exact h.cell 1
    · exact h.cell 2
    · exact h.cell 3
    · exact h.cell 4
    · exact h.cell 5
    · exact h.cell 6
    · exact h.cell 7
  · simp at hy

end Go.Proofs.YtdaimejlcfhfiaaGreatDoor

namespace Go.Proofs.YtdaimejlcfhfiaaGreatDoor
open Go.RowKit Go.Shelf

theorem keep1_any (n id : Int) (cb : Nat) (w : World) (hc : w.cell? ⟨cb, 0, none⟩ = some (.int .i64 id)) : Calls Tryz.prog 120 #[.int .i64 n, .pointer (some ⟨cb, 0, none⟩)] w (BoolPost (decide (id < n)) w) := by
  go_enter Tryz.func120, Tryz.ntmps120
  go_wp2_with fail
  go_ret
  exact ⟨rfl, Below.refl _ _⟩
/-- Where one is put. -/
theorem keep_place (l : List Kp) (x : Kp) : ∃ j, j ≤ l.length ∧ l.take j ++ [x] ++ l.drop j = putK l x ∧ ((placeF (fun n => decide (x.id < n)) (l.map Kp.id) = -1 ∧ j = l.length) ∨ (placeF (fun n => decide (x.id < n)) (l.map Kp.id) = (j : Int) ∧ j < l.length)) := by
  have e : (l.map Kp.id).findIdx? (fun n => decide (x.id < n)) = l.findIdx? (fun y => decide (x.id < y.id)) := by rw [List.findIdx?_map]; rfl
  cases hf : l.findIdx? (fun y => decide (x.id < y.id)) with
  | none =>
    refine ⟨l.length, Nat.le_refl _, (putK_at (fun y hy => ?_) (fun y hy => ?_)).symm, .inl ⟨by unfold placeF; rw [e, hf], rfl⟩⟩
    · rw [List.findIdx?_eq_none_iff] at hf
      have := hf y (by rw [List.take_length] at hy; exact hy)
      simp at this
      omega
    · rw [List.getElem?_eq_none (Nat.le_refl _)] at hy; cases hy
  | some j =>
    have h1 := hf
    rw [List.findIdx?_eq_some_iff_getElem] at h1
    obtain ⟨hj, hp, hno⟩ := h1
    refine ⟨j, Nat.le_of_lt hj, (putK_at (fun y hy => ?_) (fun y hy => ?_)).symm, .inr ⟨by unfold placeF; rw [e, hf], hj⟩⟩
    · obtain ⟨k, hk, rfl⟩ := List.getElem_of_mem hy
      rw [List.length_take] at hk
      have := hno k (by omega)
      simp only [List.getElem_take]
      simp at this
      omega
    · rw [List.getElem?_eq_getElem hj] at hy
      cases hy
      simp at hp
      omega

set_option maxHeartbeats 4000000 in
theorem keepP_any (p : Br) (a : Ad) (x : Kp) (base g : Nat) (w : World) (h : BrIn base g w p a) (hn : p.kps.length ≤ 900) :
    Calls Tryz.prog 93 #[.pointer (some ⟨g, 0, none⟩), .agg (kpC x)] w (StPost base g { p with kps := putK p.kps x } w) := by
  have hmf : ∀ (fn : Fn) (first cap : Array Value) (w : World), (Instr.makeFunc fn first cap).run Tryz.prog w = .ok (.func fn first cap) w := fun _ _ _ _ => rfl
  obtain ⟨j, hj, hput, hcase⟩ := keep_place p.kps x
  have hbase : base ≤ w.heap.size := Nat.le_trans h.ge (Nat.le_of_lt h.lt)
  obtain ⟨V, hV⟩ : ∃ V, w.alloc (.cells (kpC x) 47) = V := ⟨_, rfl⟩
  have hw : Whole V w.heap.size 47 (kpC x) := by rw [← hV]; exact Whole.new _ _ _
  have hb : Below w.heap.size w V := by rw [← hV]; exact (Below.refl _ _).alloc (Nat.le_refl _) _
  have H := Lib.hid (h.under hb)
  have HX := Lib.hid hw
  have HS := Lib.hid (Stp.of_below hb hbase)
  have HNB := Lib.hid (own_before h.own.kps (Nat.le_refl _))
  have HPut := Lib.hid hput
  have HBase := Lib.hid hbase
  have HV := Lib.hid hV
  have HCase := Lib.hid hcase
  clear h hbase hw hb hput hV hcase
  go_enter Tryz.func93, Tryz.ntmps93
  go_upto_region 1 with fail
  refine wpV (fun V2 hV2 => ?_)
  obtain rfl : V = V2 := HV.out.symm.trans hV2
  clear HV hV2
  go_wp2_with (refine wpList_load_row (by rfl) 30 _ rfl g (by rfl) 30 _ (0, 0) _ H.out.box Tryz.underlying30 rfl (by kernel_rfl) ?_)
  refine (ids_any p a V).mono ?_
  rintro e w2 ⟨b1, b2, rfl, h1, h2, h3, h4, hb2⟩
  have H2 := Lib.hid (H.out.under hb2)
  have HSq := Lib.hid (kpSeq (l := p.kps) (by omega) h1 h2 h3 h4 H2.out.own.reads.kps)
  have HX2 := Lib.hid (HX.out.under hb2)
  have HS2 := Lib.hid (HS.out.trans (Stp.of_below hb2 (Nat.le_trans HBase.out HS.out.size)))
  clear h1 h2 h3 h4 hb2 H HX HS
  go_wp2_with fail
  refine (place_any 113 b1 b2 120 w.heap.size (p.kps.map Kp.id) (fun n => decide (x.id < n)) w2 (enters_of Tryz.func113 (by kernel_rfl) rfl) (enters_of Tryz.func120 (by kernel_rfl) rfl) HSq.out (by rw [List.length_map]; omega)
    (fun n W hW => keep1_any n x.id _ W ((HX2.out.under hW).cell 0))).mono ?_
  rintro e w3 ⟨rfl, hb3⟩
  have H3 := Lib.hid (H2.out.under hb3)
  have HX3 := Lib.hid (HX2.out.under hb3)
  have HS3 := Lib.hid (HS2.out.trans (Stp.of_below hb3 (Nat.le_trans HBase.out HS2.out.size)))
  clear hb3 H2 HX2 HS2 HSq
  have hHT : Whole w3.drew g 30 (brC p a) ∧ Whole w3.drew w.heap.size 47 (kpC x) := ⟨H3.out.box.under (below_drewB (Below.refl _ w3) 1), HX3.out.under (below_drewB (Below.refl _ w3) 1)⟩
  have HT : Hid ((fun V' => Whole V' g 30 (brC p a) ∧ Whole V' w.heap.size 47 (kpC x)) w3.drew) := Lib.hid hHT
  have HL : Hid (∀ V', (Whole V' g 30 (brC p a) ∧ Whole V' w.heap.size 47 (kpC x)) → V'.cell? ⟨g, 19, none⟩ = some (.slice a.B p.kps.length a.d) ∧ V'.cell? ⟨w.heap.size, 0, none⟩ = some (.int .i64 x.id) ∧ V'.cell? ⟨w.heap.size, 1, none⟩ = some (.int .i64 x.tok) ∧ V'.cell? ⟨w.heap.size, 2, none⟩ = some (.int .i64 x.ver) ∧ V'.cell? ⟨w.heap.size, 3, none⟩ = some (.int .i64 x.zone) ∧ V'.cell? ⟨w.heap.size, 4, none⟩ = some (.int .u8 x.phase) ∧ V'.cell? ⟨w.heap.size, 5, none⟩ = some (.int .i64 x.since) ∧ V'.cell? ⟨w.heap.size, 6, none⟩ = some (.bool x.guard) ∧ V'.cell? ⟨w.heap.size, 7, none⟩ = some (.bool x.done)) := Lib.hid (fun V' h => ⟨h.1.cell 19, h.2.cell 0, h.2.cell 1, h.2.cell 2, h.2.cell 3, h.2.cell 4, h.2.cell 5, h.2.cell 6, h.2.cell 7⟩)
  clear hHT
  rcases HCase.out with ⟨hp, hjl⟩ | ⟨hp, hjl⟩
  · obtain ⟨c0, c1, c2, c3, c4, c5, c6, c7, c8, c9, c10, c11, c12, c13, c14, c15, c16, c17, c18, c19, c20, c21, c22, c23, c24, c25, c26⟩ := cells27 H3.out.box
    rw [hp]
    clear hp
    go_wp2_with fail
    clear c0 c1 c2 c3 c4 c5 c6 c7 c8 c9 c10 c11 c12 c13 c14 c15 c16 c17 c18 c19 c20 c21 c22 c23 c24 c25 c26
    subst hjl
    refine wp_region_T (ls := [11]) (T := (fun V' => Whole V' g 30 (brC p a) ∧ Whole V' w.heap.size 47 (kpC x))) (by kernel_rfl) ?_
    refine kP 0 ?_ rfl ?_ (fun _ => HT.out) ?_
    rotate_left
    · intro V'; go_simp <;> with_reducible rfl
    simp only [Act.put, lA, lZ, lS]
    refine kP 1 ?_ rfl ?_ (fun _ => HT.out) ?_
    rotate_left
    · intro V'; go_simp <;> with_reducible rfl
    simp only [Act.put, lA, lZ, lS]
    refine kP 2 ?_ rfl ?_ (fun _ => HT.out) ?_
    rotate_left
    · intro V'; go_simp <;> with_reducible rfl
    simp only [Act.put, lA, lZ, lS]
    refine kP 3 ?_ rfl ?_ (fun _ => HT.out) ?_
    rotate_left
    · intro V'; go_simp <;> with_reducible rfl
    simp only [Act.put, lA, lZ, lS]
    refine kT 4 ?_ rfl ?_ HT.out ?_
    rotate_left
    · intro V' hV; obtain ⟨d19, d0, d1, d2, d3, d4, d5, d6, d7⟩ := HL.out V' hV; go_simp <;> with_reducible rfl
    simp only [Act.put, lA, lZ, lS]
    refine kP 5 ?_ rfl ?_ (fun _ => HT.out) ?_
    rotate_left
    · intro V'; go_simp <;> with_reducible rfl
    simp only [Act.put, lA, lZ, lS]
    refine kT 6 ?_ rfl ?_ HT.out ?_
    rotate_left
    · intro V' hV; obtain ⟨d19, d0, d1, d2, d3, d4, d5, d6, d7⟩ := HL.out V' hV; go_simp <;> with_reducible rfl
    simp only [Act.put, lA, lZ, lS]
    obtain ⟨V3, hV3⟩ : ∃ W, w3.drew.alloc (.cells #[.int .i64 x.id, .int .i64 x.tok, .int .i64 x.ver, .int .i64 x.zone, .int .u8 x.phase, .int .i64 x.since, .bool x.guard, .bool x.done] 47) = W := ⟨_, rfl⟩
    have b3 : Below w3.heap.size w3 V3 := by rw [← hV3]; exact (below_drewB (Below.refl _ w3) 1).alloc (Nat.le_refl _) _
    have x3 : Whole V3 w3.heap.size 47 (kpC x) := by rw [← hV3]; exact Whole.new _ _ _
    have H4 := Lib.hid (H3.out.under b3)
    have HX4 := Lib.hid (HX3.out.under b3)
    have HNew := Lib.hid (show (Value.slice a.B p.kps.length a.d).ownBlock ≠ some w3.heap.size from own_before H3.out.own.kps (Nat.le_refl _))
    have HS4 := Lib.hid (HS3.out.trans (Stp.of_below b3 (Nat.le_trans HBase.out HS3.out.size)))
    have HL4 := Lib.hid x3
    clear b3 x3
    refine oneT (i := 7) rfl (by kernel_rfl) (by rfl) (fun K hK => ?_)
    go_simp
    clear hV3
    refine hK.out _ _ (fun _ => ⟨H4.out.box, HX4.out⟩) ?_
    clear hK K
    refine oneT (i := 8) rfl (by kernel_rfl) (by rfl) (fun K hK => ?_)
    go_simp
    refine (insK_any a.B p.kps.length a.d p.kps.length p.kps x w3.heap.size base V3 H4.out.own.kps rfl HL4.out HNew.out (Nat.le_refl _) (by omega) (Nat.le_trans HBase.out HS4.out.size)).mono ?_
    rintro e w5 ⟨A', c', rfl, ho, hg⟩
    rw [HPut.out] at ho
    have hln : p.kps.length + 1 = (putK p.kps x).length := by rw [putK_len]
    rw [hln] at ho
    have HG := Lib.hid hg
    have HO := Lib.hid ho
    have HT5 := Lib.hid (And.intro (H4.out.box.grown hg (Ne.symm (own_apart_F (by decide) H4.out.own.kps H4.out.box))) (HX4.out.grown hg (Ne.symm HNB.out)))
    have HS5 := Lib.hid (HS4.out.trans (Stp.own H4.out.own.kps (by decide) (Nat.le_trans HBase.out HS4.out.size) hg))
    have HLn := Lib.hid hln
    clear ho hg hln
    refine hK.out _ _ (fun _ => HT5.out) ?_
    clear hK K
    clear HT
    have HT := HT5
    refine oneT (i := 9) rfl (by kernel_rfl) (by rfl) (fun K hK => ?_)
    go_simp
    refine hK.out _ _ (fun _ => HT.out) ?_
    clear hK K
    refine oneT (i := 10) rfl (by kernel_rfl) (by rfl) (fun K hK => ?_)
    go_simp
    refine hK.out _ _ (fun _ => HT.out) ?_
    clear hK K
    have f19 := HT5.out.1.frozen 19
    have z19 := HT5.out.1.cell 19
    simp only [List.getElem?_toArray, List.getElem?_cons_zero, List.getElem?_cons_succ] at z19
    refine oneL (i := 11) (by kernel_rfl) rfl (by kernel_rfl) (by rfl) (fun K hK => ?_)
    go_simp
    refine hK.out _ _ ?_
    clear hK K
    refine doneT (by kernel_rfl) ?_ _
    go_wp2_with fail
    go_end0
    have hfin := H4.out.kps HG.out HO.out
    rw [← HLn.out] at hfin
    exact ⟨rfl, HS5.out.trans (Stp.set HT5.out.1 (by decide) H4.out.ge _ _), _, hfin⟩
  · rw [hp]
    clear hp
    have hjn : decide ((j : Int) < 0) = false := by simp
    go_wp2_with fail
    refine wp_region_T (ls := [11]) (T := (fun V' => Whole V' g 30 (brC p a) ∧ Whole V' w.heap.size 47 (kpC x))) (by kernel_rfl) ?_
    refine kP 0 ?_ rfl ?_ (fun _ => HT.out) ?_
    rotate_left
    · intro V'; go_simp <;> with_reducible rfl
    simp only [Act.put, lA, lZ, lS]
    refine kP 1 ?_ rfl ?_ (fun _ => HT.out) ?_
    rotate_left
    · intro V'; go_simp <;> with_reducible rfl
    simp only [Act.put, lA, lZ, lS]
    refine kP 2 ?_ rfl ?_ (fun _ => HT.out) ?_
    rotate_left
    · intro V'; go_simp <;> with_reducible rfl
    simp only [Act.put, lA, lZ, lS]
    refine kP 3 ?_ rfl ?_ (fun _ => HT.out) ?_
    rotate_left
    · intro V'; go_simp <;> with_reducible rfl
    simp only [Act.put, lA, lZ, lS]
    refine kT 4 ?_ rfl ?_ HT.out ?_
    rotate_left
    · intro V' hV; obtain ⟨d19, d0, d1, d2, d3, d4, d5, d6, d7⟩ := HL.out V' hV; go_simp <;> with_reducible rfl
    simp only [Act.put, lA, lZ, lS]
    refine kP 5 ?_ rfl ?_ (fun _ => HT.out) ?_
    rotate_left
    · intro V'; go_simp <;> with_reducible rfl
    simp only [Act.put, lA, lZ, lS]
    refine kT 6 ?_ rfl ?_ HT.out ?_
    rotate_left
    · intro V' hV; obtain ⟨d19, d0, d1, d2, d3, d4, d5, d6, d7⟩ := HL.out V' hV; go_simp <;> with_reducible rfl
    simp only [Act.put, lA, lZ, lS]
    obtain ⟨V3, hV3⟩ : ∃ W, w3.drew.alloc (.cells #[.int .i64 x.id, .int .i64 x.tok, .int .i64 x.ver, .int .i64 x.zone, .int .u8 x.phase, .int .i64 x.since, .bool x.guard, .bool x.done] 47) = W := ⟨_, rfl⟩
    have b3 : Below w3.heap.size w3 V3 := by rw [← hV3]; exact (below_drewB (Below.refl _ w3) 1).alloc (Nat.le_refl _) _
    have x3 : Whole V3 w3.heap.size 47 (kpC x) := by rw [← hV3]; exact Whole.new _ _ _
    have H4 := Lib.hid (H3.out.under b3)
    have HX4 := Lib.hid (HX3.out.under b3)
    have HNew := Lib.hid (show (Value.slice a.B p.kps.length a.d).ownBlock ≠ some w3.heap.size from own_before H3.out.own.kps (Nat.le_refl _))
    have HS4 := Lib.hid (HS3.out.trans (Stp.of_below b3 (Nat.le_trans HBase.out HS3.out.size)))
    have HL4 := Lib.hid x3
    clear b3 x3
    refine oneT (i := 7) rfl (by kernel_rfl) (by rfl) (fun K hK => ?_)
    go_simp
    clear hV3
    refine hK.out _ _ (fun _ => ⟨H4.out.box, HX4.out⟩) ?_
    clear hK K
    refine oneT (i := 8) rfl (by kernel_rfl) (by rfl) (fun K hK => ?_)
    go_simp
    refine (insK_any a.B p.kps.length a.d j p.kps x w3.heap.size base V3 H4.out.own.kps rfl HL4.out HNew.out hj (by omega) (Nat.le_trans HBase.out HS4.out.size)).mono ?_
    rintro e w5 ⟨A', c', rfl, ho, hg⟩
    rw [HPut.out] at ho
    have hln : p.kps.length + 1 = (putK p.kps x).length := by rw [putK_len]
    rw [hln] at ho
    have HG := Lib.hid hg
    have HO := Lib.hid ho
    have HT5 := Lib.hid (And.intro (H4.out.box.grown hg (Ne.symm (own_apart_F (by decide) H4.out.own.kps H4.out.box))) (HX4.out.grown hg (Ne.symm HNB.out)))
    have HS5 := Lib.hid (HS4.out.trans (Stp.own H4.out.own.kps (by decide) (Nat.le_trans HBase.out HS4.out.size) hg))
    have HLn := Lib.hid hln
    clear ho hg hln
    refine hK.out _ _ (fun _ => HT5.out) ?_
    clear hK K
    clear HT
    have HT := HT5
    refine oneT (i := 9) rfl (by kernel_rfl) (by rfl) (fun K hK => ?_)
    go_simp
    refine hK.out _ _ (fun _ => HT.out) ?_
    clear hK K
    refine oneT (i := 10) rfl (by kernel_rfl) (by rfl) (fun K hK => ?_)
    go_simp
    refine hK.out _ _ (fun _ => HT.out) ?_
    clear hK K
    have f19 := HT5.out.1.frozen 19
    have z19 := HT5.out.1.cell 19
    simp only [List.getElem?_toArray, List.getElem?_cons_zero, List.getElem?_cons_succ] at z19
    refine oneL (i := 11) (by kernel_rfl) rfl (by kernel_rfl) (by rfl) (fun K hK => ?_)
    go_simp
    refine hK.out _ _ ?_
    clear hK K
    refine doneT (by kernel_rfl) ?_ _
    go_wp2_with fail
    go_end0
    have hfin := H4.out.kps HG.out HO.out
    rw [← HLn.out] at hfin
    exact ⟨rfl, HS5.out.trans (Stp.set HT5.out.1 (by decide) H4.out.ge _ _), _, hfin⟩

end Go.Proofs.YtdaimejlcfhfiaaGreatDoor
