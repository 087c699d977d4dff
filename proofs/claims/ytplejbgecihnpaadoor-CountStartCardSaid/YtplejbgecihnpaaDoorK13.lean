/-
  Texts that the walk of a statement over brains leans on, joined (BrRefKeep). Conditions: those that each theorem names.
-/
import Derived.Test.YtplejbgecihnpaaDoorK12

namespace Go.Proofs.YtplejbgecihnpaaDoor
open Go.RowKit Go.Shelf

/-- What comes of a call that tells a brain of one's own from base on, and turns no block but brains, what is meant, what is kept, from base on. -/
def StV (base : Nat) (q : Br) (w : World) (e : Ending) (w' : World) : Prop := ∃ a, e = .returned (brV q a) ∧ OwB base w' q a ∧ Stp base w w'
/-- Where a walk of the document's stands: the brain handed in in its box, the box of what is told, all else as it was. -/
structure Rz (base : Nat) (w : World) (p : Br) (a : Ad) (W : World) : Prop where
  in_ : BrIn base w.heap.size W p a
  res : Whole W (w.heap.size + 1) 30 (brC br0 ad0)
  stp : Stp base w W
section
variable {base : Nat} {w W W' : World} {p : Br} {a : Ad}
set_option maxRecDepth 100000 in
theorem Rz.set (h : Rz base w p a W) {p' : Br} (i : Nat) (v : Value) (he : (brC p a).setIfInBounds i v = brC p' a) (h1 : p'.cf.ms = p.cf.ms) (h2 : p'.its = p.its) (h3 : p'.kps = p.kps) : Rz base w p' a (W.setCell ⟨w.heap.size, i, none⟩ v) :=
  ⟨h.in_.set i v he h1 h2 h3, (Only.set W w.heap.size i v).far h.res (by omega), h.stp.trans (Stp.set h.in_.box (by decide) h.in_.ge i v)⟩
set_option maxRecDepth 100000 in
theorem Rz.under (h : Rz base w p a W) (hb : Below W.heap.size W W') : Rz base w p a W' :=
  ⟨h.in_.under hb, h.res.under hb, h.stp.trans (Stp.of_below hb (Nat.le_trans h.in_.ge (Nat.le_of_lt h.in_.lt)))⟩
set_option maxRecDepth 100000 in
/-- The brain is told. -/
theorem Rz.tell (h : Rz base w p a W) {W2 : World} (hW : W2 = W.setRow (w.heap.size + 1) (brC p a)) : Whole W2 (w.heap.size + 1) 30 (brC p a) ∧ OwB base W2 p a ∧ Stp base w W2 := by
  have hge := h.in_.ge
  have s1 : Stp base W (W.setRow (w.heap.size + 1) (brC p a)) := by
    refine ⟨below_rowsetB (Below.refl _ _) (by omega) _, fun i o ho hs => ?_, fun i cs hi => ?_⟩
    · by_cases e : i = w.heap.size + 1
      · subst e
        have := h.res
        unfold Whole at this
        rw [this] at ho
        cases ho
        simp [stayO, mutT] at hs
      · exact (setRow_other W _ i _ e).trans ho
    · by_cases e : i = w.heap.size + 1
      · subst e
        have h2 := h.res
        unfold Whole at h2 hi
        rw [h2] at hi
        cases hi
        exact ⟨_, setRow_heap _ _ _ _ _ _ h.res, rfl⟩
      · exact ⟨cs, (setRow_other W _ i _ e).trans hi, rfl⟩
  rw [hW]
  exact ⟨setRow_heap _ _ _ _ _ _ h.res, h.in_.own.rowset h.res (by decide) (by decide) (by decide) _, h.stp.trans s1⟩
end

set_option maxRecDepth 100000 in
set_option maxHeartbeats 4000000 in
theorem rkeepS_any (p : Br) (a : Ad) (x : Kp) (base : Nat) (w : World) (hw : OwB base w p a) (hbase : base ≤ w.heap.size) (hk : p.kps.length ≤ 1000) :
    Calls Tryd.prog 64 #[brV p a, .agg #[.int .i64 x.id, .int .i64 x.tok, .int .i64 x.ver, .int .i64 x.zone, .int .u8 x.phase, .int .i64 x.since, .bool x.guard, .bool x.done]] w (StV base { p with kps := putK p.kps x } w) := by
  obtain ⟨hb, w0, w1, w2⟩ := three_new w 30 32 30 (brC p a) #[.int .i64 x.id, .int .i64 x.tok, .int .i64 x.ver, .int .i64 x.zone, .int .u8 x.phase, .int .i64 x.since, .bool x.guard, .bool x.done] (brC br0 ad0)
  obtain ⟨V, hV⟩ : ∃ V, ((w.alloc (.cells (brC p a) 30)).alloc (.cells #[.int .i64 x.id, .int .i64 x.tok, .int .i64 x.ver, .int .i64 x.zone, .int .u8 x.phase, .int .i64 x.since, .bool x.guard, .bool x.done] 32)).alloc (.cells (brC br0 ad0) 30) = V := ⟨_, rfl⟩
  rw [hV] at hb w0 w1 w2
  have HO := Lib.hid (hw.under hb)
  have HCd := Lib.hid (show p.kps.length ≤ a.d from own_capF hw.kps)
  have HB := Lib.hid hb
  have HBb := Lib.hid hbase
  have HSz := Lib.hid hb.size
  have HBs := Lib.hid (Nat.le_refl w.heap.size)
  have X0 := Lib.hid w0
  have X1 := Lib.hid w1
  have X2 := Lib.hid w2
  have HV := Lib.hid hV
  have c19 : V.cell? ⟨w.heap.size, 19, none⟩ = some (.slice a.B p.kps.length a.d) := w0.cell 19
  have z0 : V.cell? ⟨w.heap.size + 1, 0, none⟩ = some (.int .i64 x.id) := w1.cell 0
  clear hb w0 w1 w2 hw hbase hV
  go_enter Tryd.func64, Tryd.ntmps64
  go_upto_region 1 with fail
  refine wpV (fun V2 hV2 => ?_)
  obtain rfl : V = V2 := HV.out.symm.trans hV2
  clear HV hV2
  go_wp2_with fail
  go_loopw [5] (fun i wr => ∃ j : Nat, i = .int .i64 (j : Int) ∧ j ≤ p.kps.length ∧ (∀ y ∈ p.kps.take j, y.id ≤ x.id) ∧ ∃ k, wr = V.drewN k) (fun i _ => p.kps.length - (intOf i).toNat)
  case atStart => exact ⟨0, rfl, Nat.zero_le _, by simp, 0, rfl⟩
  case round =>
    obtain ⟨j, rfl, hj, hT, kk, rfl⟩ := hrel
    have HT := Lib.hid hT
    clear hT
    by_cases hlt : j < p.kps.length
    · obtain ⟨b1, off1, h1, _, hc⟩ := RdK.at_ (HO.out.kps.read) (by omega)
      obtain ⟨y, hy⟩ : ∃ y, p.kps[j]? = some y := ⟨_, List.getElem?_eq_getElem hlt⟩
      obtain ⟨g0, g1, g2, g3, g4, g5, g6, g7⟩ := hc j y hy
      have hI : (j : Int) < (p.kps.length : Int) := by omega
      have HY := Lib.hid hy
      rw [h1] at c19
      clear hc hy
      by_cases hyx : y.id ≤ x.id
      · have q0 : decide (y.id ≤ x.id) = true := decide_eq_true hyx
        have HN : Hid (∀ y ∈ p.kps.take (j + 1), y.id ≤ x.id) := Lib.hid (fun z hz => by
          rw [List.take_succ_eq_append_getElem (List.getElem?_eq_some_iff.1 HY.out).1, (List.getElem?_eq_some_iff.1 HY.out).2, List.mem_append, List.mem_singleton] at hz
          rcases hz with hz | rfl
          · exact HT.out z hz
          · exact hyx)
        clear hyx
        go_wp2_with fail
        go_quiet (fail)
        go_wp2_with fail
        go_roundw
        case rel => exact ⟨j + 1, by go_num, by omega, HN.out, _, rfl⟩
        case measure => simp [intOf]; omega
      · have q0 : decide (y.id ≤ x.id) = false := decide_eq_false hyx
        have HP := Lib.hid (putK_at HT.out (fun z hz => by rw [HY.out] at hz; injection hz with hz; rw [← hz]; exact hyx))
        clear hyx
        go_wp2_with fail
        go_quiet (fail)
        clear g0 g1 g2 g3 g4 g5 g6 g7 q0 hI hlt
        rw [← h1] at c19
        clear h1
        go_upto_region 4 with fail
        clear c19 z0
        refine wpV (fun U hU => ?_)
        have bU : Below V.heap.size V U := by rw [← hU]; first | exact below_drewB (below_drewB (Below.refl _ V) _) _ | exact below_drewB (Below.refl _ V) _
        have Y0 := Lib.hid (X0.out.under bU)
        have Y1 := Lib.hid (X1.out.under bU)
        have Y2 := Lib.hid (X2.out.under bU)
        have HOU := Lib.hid (HO.out.under bU)
        have HBU := Lib.hid (HB.out.trans (bU.mono HSz.out))
        have HSU := Lib.hid (Nat.le_trans HSz.out bU.size)
        clear hU bU X0 X1 X2 HO HB HSz
        have HR := Lib.hid (show RdK U U.heap.size a.B p.kps.length p.kps from HOU.out.kps.read)
        have hhead := fun W => run_headF Tryd.underlying26 rfl info_kp a.B p.kps.length a.d j (by have := HCd.out; omega) W
        obtain ⟨A', hrest, hA'⟩ := run_restF Tryd.underlying26 rfl info_kp a.B p.kps.length a.d j hj
        have HH := Lib.hid hhead
        have HRe := Lib.hid hrest
        have HD := Lib.hid (show RdK U U.heap.size A' (p.kps.length - j) (p.kps.drop j) from HR.out.drop hj (fun h b off e => hA' ⟨h, HCd.out⟩ b off e))
        have HTk := Lib.hid (show RdK U U.heap.size a.B j (p.kps.take j) from HR.out.take hj)
        clear hhead hrest hA'
        have HLk := Lib.hid (show (p.kps.take j).length = j by rw [List.length_take]; omega)
        have HJ := Lib.hid hj
        have HPL := Lib.hid (show (p.kps.take j ++ [x]).length + (p.kps.length - j) = (putK p.kps x).length by rw [HP.out]; simp only [List.length_append, List.length_take, List.length_drop, List.length_singleton])
        have HT0 : Hid ((fun V' => Whole V' w.heap.size 30 (brC p a) ∧ Whole V' (w.heap.size + 1) 32 #[.int .i64 x.id, .int .i64 x.tok, .int .i64 x.ver, .int .i64 x.zone, .int .u8 x.phase, .int .i64 x.since, .bool x.guard, .bool x.done]) U.drew) := Lib.hid ⟨Y0.out, Y1.out⟩
        have HL : Hid (∀ V', (fun V' => Whole V' w.heap.size 30 (brC p a) ∧ Whole V' (w.heap.size + 1) 32 #[.int .i64 x.id, .int .i64 x.tok, .int .i64 x.ver, .int .i64 x.zone, .int .u8 x.phase, .int .i64 x.since, .bool x.guard, .bool x.done]) V' → V'.cell? ⟨w.heap.size, 19, none⟩ = some (.slice a.B p.kps.length a.d) ∧ V'.cell? ⟨w.heap.size + 1, 0, none⟩ = some (.int .i64 x.id) ∧ V'.cell? ⟨w.heap.size + 1, 1, none⟩ = some (.int .i64 x.tok) ∧ V'.cell? ⟨w.heap.size + 1, 2, none⟩ = some (.int .i64 x.ver) ∧ V'.cell? ⟨w.heap.size + 1, 3, none⟩ = some (.int .i64 x.zone) ∧ V'.cell? ⟨w.heap.size + 1, 4, none⟩ = some (.int .u8 x.phase) ∧ V'.cell? ⟨w.heap.size + 1, 5, none⟩ = some (.int .i64 x.since) ∧ V'.cell? ⟨w.heap.size + 1, 6, none⟩ = some (.bool x.guard) ∧ V'.cell? ⟨w.heap.size + 1, 7, none⟩ = some (.bool x.done)) := Lib.hid (fun V' h => ⟨h.1.cell 19, h.2.cell 0, h.2.cell 1, h.2.cell 2, h.2.cell 3, h.2.cell 4, h.2.cell 5, h.2.cell 6, h.2.cell 7⟩)
        have HU := Lib.hid (show Below U.heap.size U U.drew from below_drewB (Below.refl _ U) 1)
        refine wp_region_T (ls := [15]) (T := (fun V' => Whole V' w.heap.size 30 (brC p a) ∧ Whole V' (w.heap.size + 1) 32 #[.int .i64 x.id, .int .i64 x.tok, .int .i64 x.ver, .int .i64 x.zone, .int .u8 x.phase, .int .i64 x.since, .bool x.guard, .bool x.done])) (by kernel_rfl) ?_
        refine takeP (i := 1) (v := ?_) rfl (by kernel_rfl) (by kernel_rfl) (by kernel_rfl) (by kernel_rfl) (fun _ _ _ h => h) (by rfl) ?_ (fun _ => HT0.out) ?_
        rotate_left
        · intro V'; go_simp <;> with_reducible rfl
        simp only [Act.put, List.setIfInBounds_toArray, List.set_cons_zero, List.set_cons_succ]
        refine takeT (i := 2) (v := ?_) rfl (by kernel_rfl) (by kernel_rfl) (by kernel_rfl) (by kernel_rfl) (fun _ _ _ h => h) (by rfl) ?_ HT0.out ?_
        rotate_left
        · intro V' hV; obtain ⟨y19, y0, y1, y2, y3, y4, y5, y6, y7⟩ := HL.out V' hV; go_simp <;> with_reducible rfl
        simp only [Act.put, List.setIfInBounds_toArray, List.set_cons_zero, List.set_cons_succ]
        refine takeP (i := 3) (v := ?_) rfl (by kernel_rfl) (by kernel_rfl) (by kernel_rfl) (by kernel_rfl) (fun _ _ _ h => h) (by rfl) ?_ (fun _ => HT0.out) ?_
        rotate_left
        · intro V'; go_simp <;> with_reducible rfl
        simp only [Act.put, List.setIfInBounds_toArray, List.set_cons_zero, List.set_cons_succ]
        refine takeP (i := 4) (v := .slice a.B j a.d) rfl (by kernel_rfl) (by kernel_rfl) (by kernel_rfl) (by kernel_rfl) (fun _ _ _ h => h) (by rfl) ?_ (fun _ => HT0.out) ?_
        · intro V'; have hs := HH.out V'; go_simp <;> with_reducible rfl
        simp only [Act.put, List.setIfInBounds_toArray, List.set_cons_zero, List.set_cons_succ]
        refine takeT (i := 6) (v := ?_) rfl (by kernel_rfl) (by kernel_rfl) (by kernel_rfl) (by kernel_rfl) (fun _ _ _ h => h) (by rfl) ?_ HT0.out ?_
        rotate_left
        · intro V' hV; obtain ⟨y19, y0, y1, y2, y3, y4, y5, y6, y7⟩ := HL.out V' hV; go_simp <;> with_reducible rfl
        simp only [Act.put, List.setIfInBounds_toArray, List.set_cons_zero, List.set_cons_succ]
        refine takeP (i := 9) (v := ?_) rfl (by kernel_rfl) (by kernel_rfl) (by kernel_rfl) (by kernel_rfl) (fun _ _ _ h => h) (by rfl) ?_ (fun _ => HT0.out) ?_
        rotate_left
        · intro V'; go_simp <;> with_reducible rfl
        simp only [Act.put, List.setIfInBounds_toArray, List.set_cons_zero, List.set_cons_succ]
        refine takeT (i := 10) (v := ?_) rfl (by kernel_rfl) (by kernel_rfl) (by kernel_rfl) (by kernel_rfl) (fun _ _ _ h => h) (by rfl) ?_ HT0.out ?_
        rotate_left
        · intro V' hV; obtain ⟨y19, y0, y1, y2, y3, y4, y5, y6, y7⟩ := HL.out V' hV; go_simp <;> with_reducible rfl
        simp only [Act.put, List.setIfInBounds_toArray, List.set_cons_zero, List.set_cons_succ]
        refine takeP (i := 11) (v := ?_) rfl (by kernel_rfl) (by kernel_rfl) (by kernel_rfl) (by kernel_rfl) (fun _ _ _ h => h) (by rfl) ?_ (fun _ => HT0.out) ?_
        rotate_left
        · intro V'; go_simp <;> with_reducible rfl
        simp only [Act.put, List.setIfInBounds_toArray, List.set_cons_zero, List.set_cons_succ]
        refine takeP (i := 12) (v := .slice A' (p.kps.length - j) (a.d - j)) rfl (by kernel_rfl) (by kernel_rfl) (by kernel_rfl) (by kernel_rfl) (fun _ _ _ h => h) (by rfl) ?_ (fun _ => HT0.out) ?_
        · intro V'; have hs := HRe.out V'; go_simp <;> with_reducible rfl
        simp only [Act.put, List.setIfInBounds_toArray, List.set_cons_zero, List.set_cons_succ]
        refine twoT (i := 0) (j := 7) rfl rfl (by kernel_rfl) (by rfl) (by rfl) (fun K hK => ?_) (fun K hK => ?_)
        · obtain ⟨W1, hW⟩ : ∃ W, U.drew.alloc (.cells #[] 32) = W := ⟨_, rfl⟩
          have b_ : Below U.drew.heap.size U.drew W1 := by rw [← hW]; exact (Below.refl _ _).alloc (Nat.le_refl _) _
          have r_ : KpsAt U.heap.size W1 (.slice (some ⟨U.drew.heap.size, 0, none⟩) 0 0) [] := by rw [← hW]; exact World.ownsRow_made (base := U.heap.size) (e := 32) (size := 8) U.drew #[] 0 HU.out.size (Nat.zero_le _) rfl
          have HNE := Lib.hid (show W1.heap.size = U.drew.heap.size + 1 by rw [← hW, World.size_alloc])
          go_simp
          clear hW
          have HU_ := Lib.hid (HU.out.trans (b_.mono HU.out.size))
          clear HU
          have HU := HU_
          clear HU_
          have R24 := Lib.hid r_
          clear r_ b_
          have HTc : Hid ((fun V' => Whole V' w.heap.size 30 (brC p a) ∧ Whole V' (w.heap.size + 1) 32 #[.int .i64 x.id, .int .i64 x.tok, .int .i64 x.ver, .int .i64 x.zone, .int .u8 x.phase, .int .i64 x.since, .bool x.guard, .bool x.done]) W1) := Lib.hid ⟨Y0.out.under HU.out, Y1.out.under HU.out⟩
          refine hK.out _ _ (fun _ => HTc.out) ?_
          clear hK K HTc
          refine twoT (i := 5) (j := 7) rfl rfl (by kernel_rfl) (by rfl) (by rfl) (fun K hK => ?_) (fun K hK => ?_)
          · obtain ⟨A5, c5, W2, hrun, ho, hg, _⟩ := kps_app W1 U.heap.size _ [] R24.out U.heap.size a.B j a.d (p.kps.take j) (HTk.out.below HU.out) (by have := HJ.out; have := HLk.out; simp; omega) HU.out.size
            simp only [List.length_nil, Nat.zero_add, List.nil_append] at hrun ho
            have b_ : Below U.heap.size W1 W2 := below_row R24.out hg HU.out.size
            have HRun := Lib.hid hrun
            refine wp_appendH (by rfl) (by rfl) HRun.out ?_
            simp only [Act.put, List.setIfInBounds_toArray, List.set_cons_zero, List.set_cons_succ]
            clear hrun hg HRun
            have HU_ := Lib.hid (HU.out.trans b_)
            clear HU
            have HU := HU_
            clear HU_ b_
            clear R24
            have R29 := Lib.hid ho
            clear ho
            have HTc : Hid ((fun V' => Whole V' w.heap.size 30 (brC p a) ∧ Whole V' (w.heap.size + 1) 32 #[.int .i64 x.id, .int .i64 x.tok, .int .i64 x.ver, .int .i64 x.zone, .int .u8 x.phase, .int .i64 x.since, .bool x.guard, .bool x.done]) W2) := Lib.hid ⟨Y0.out.under HU.out, Y1.out.under HU.out⟩
            refine hK.out _ _ (fun _ => HTc.out) ?_
            clear hK K HTc
            refine oneT (i := 7) rfl (by kernel_rfl) (by rfl) (fun K hK => ?_)
            obtain ⟨W3, hW⟩ : ∃ W, W2.alloc (.cells #[.int .i64 x.id, .int .i64 x.tok, .int .i64 x.ver, .int .i64 x.zone, .int .u8 x.phase, .int .i64 x.since, .bool x.guard, .bool x.done] 32) = W := ⟨_, rfl⟩
            have b_ : Below W2.heap.size W2 W3 := by rw [← hW]; exact (Below.refl _ _).alloc (Nat.le_refl _) _
            have r_ : Whole W3 W2.heap.size 32 #[.int .i64 x.id, .int .i64 x.tok, .int .i64 x.ver, .int .i64 x.zone, .int .u8 x.phase, .int .i64 x.since, .bool x.guard, .bool x.done] := by rw [← hW]; exact Whole.new _ _ _
            go_simp
            clear hW
            have R29_ := Lib.hid (R29.out.under b_)
            clear R29
            have R29 := R29_
            clear R29_
            have HU_ := Lib.hid (HU.out.trans (b_.mono HU.out.size))
            clear HU
            have HU := HU_
            clear HU_
            have R31 := Lib.hid r_
            clear r_ b_
            have HTc : Hid ((fun V' => Whole V' w.heap.size 30 (brC p a) ∧ Whole V' (w.heap.size + 1) 32 #[.int .i64 x.id, .int .i64 x.tok, .int .i64 x.ver, .int .i64 x.zone, .int .u8 x.phase, .int .i64 x.since, .bool x.guard, .bool x.done]) W3) := Lib.hid ⟨Y0.out.under HU.out, Y1.out.under HU.out⟩
            refine hK.out _ _ (fun _ => HTc.out) ?_
            clear hK K HTc
            refine oneT (i := 8) rfl (by kernel_rfl) (by rfl) (fun K hK => ?_)
            obtain ⟨A8, c8, W4, hrun, ho, hg, _⟩ := kps_app W3 U.heap.size _ (p.kps.take j) R29.out (W2.heap.size + 1) (some ⟨W2.heap.size, 0, none⟩) 1 1 [x] (rdK_whole R31.out) (by have := HJ.out; have := HLk.out; simp; omega) HU.out.size
            rw [HLk.out] at hrun ho
            have b_ : Below U.heap.size W3 W4 := below_row R29.out hg HU.out.size
            have HRun := Lib.hid hrun
            refine wp_appendH (by rfl) (by rfl) HRun.out ?_
            simp only [Act.put, List.setIfInBounds_toArray, List.set_cons_zero, List.set_cons_succ]
            clear hrun hg HRun
            have HU_ := Lib.hid (HU.out.trans b_)
            clear HU
            have HU := HU_
            clear HU_ b_
            clear R29
            clear R31
            have R32 := Lib.hid ho
            clear ho
            have HTc : Hid ((fun V' => Whole V' w.heap.size 30 (brC p a) ∧ Whole V' (w.heap.size + 1) 32 #[.int .i64 x.id, .int .i64 x.tok, .int .i64 x.ver, .int .i64 x.zone, .int .u8 x.phase, .int .i64 x.since, .bool x.guard, .bool x.done]) W4) := Lib.hid ⟨Y0.out.under HU.out, Y1.out.under HU.out⟩
            refine hK.out _ _ (fun _ => HTc.out) ?_
            clear hK K HTc
            refine oneT (i := 13) rfl (by kernel_rfl) (by rfl) (fun K hK => ?_)
            obtain ⟨A13, c13, W5, hrun, ho, hg, _⟩ := kps_app W4 U.heap.size _ (p.kps.take j ++ [x]) R32.out U.heap.size A' (p.kps.length - j) (a.d - j) (p.kps.drop j) (HD.out.below HU.out) (by have := HJ.out; have := HLk.out; simp; omega) HU.out.size
            rw [HPL.out] at hrun ho
            rw [← HP.out] at ho
            have b_ : Below U.heap.size W4 W5 := below_row R32.out hg HU.out.size
            have HRun := Lib.hid hrun
            refine wp_appendH (by rfl) (by rfl) HRun.out ?_
            simp only [Act.put, List.setIfInBounds_toArray, List.set_cons_zero, List.set_cons_succ]
            clear hrun hg HRun
            have HU_ := Lib.hid (HU.out.trans b_)
            clear HU
            have HU := HU_
            clear HU_ b_
            clear R32
            have R37 := Lib.hid ho
            clear ho
            have HTc : Hid ((fun V' => Whole V' w.heap.size 30 (brC p a) ∧ Whole V' (w.heap.size + 1) 32 #[.int .i64 x.id, .int .i64 x.tok, .int .i64 x.ver, .int .i64 x.zone, .int .u8 x.phase, .int .i64 x.since, .bool x.guard, .bool x.done]) W5) := Lib.hid ⟨Y0.out.under HU.out, Y1.out.under HU.out⟩
            refine hK.out _ _ (fun _ => HTc.out) ?_
            clear hK K HTc
            refine oneT (i := 14) rfl (by kernel_rfl) (by rfl) (fun K hK => ?_)
            go_simp
            have HTc : Hid ((fun V' => Whole V' w.heap.size 30 (brC p a) ∧ Whole V' (w.heap.size + 1) 32 #[.int .i64 x.id, .int .i64 x.tok, .int .i64 x.ver, .int .i64 x.zone, .int .u8 x.phase, .int .i64 x.since, .bool x.guard, .bool x.done]) W5) := Lib.hid ⟨Y0.out.under HU.out, Y1.out.under HU.out⟩
            refine hK.out _ _ (fun _ => HTc.out) ?_
            clear hK K HTc
            have e19 : W5.cell? ⟨w.heap.size, 19, none⟩ = some (.slice a.B p.kps.length a.d) := (Y0.out.under HU.out).cell 19
            have f19 := (Y0.out.under HU.out).frozen 19
            refine oneL (i := 15) (by kernel_rfl) rfl (by kernel_rfl) (by rfl) (fun K hK => ?_)
            go_simp
            refine hK.out _ _ ?_
            clear hK K
            refine doneT (by kernel_rfl) ?_ _
            go_upto_region 5 with fail
            refine wpV (fun X hX => ?_)
            have e0 := set19L (Y0.out.under HU.out) (putK p.kps x) A13 c13
            have k := Only.set W5 w.heap.size 19 (.slice A13 (putK p.kps x).length c13)
            rw [hX] at e0 k
            have Z0 := Lib.hid e0
            have Z2 := Lib.hid (k.far (Y2.out.under HU.out) (by omega))
            have hou := HOU.out.under HU.out
            have hw1 : OwB base X { p with kps := putK p.kps x } ⟨a.C, a.e, a.A, a.c, A13, c13⟩ := ⟨k.own hou.ms (Y0.out.under HU.out) (by decide), hou.its.only k (Y0.out.under HU.out) (by decide), (R37.out.only k (Y0.out.under HU.out) (by decide)).weaker (Nat.le_trans HBb.out HSU.out)⟩
            have hb1 := k.bel (HBU.out.trans (HU.out.mono HSU.out)) HBs.out
            have HW1 := Lib.hid hw1
            have HB1 := Lib.hid hb1
            have HA : Hid ((brC { p with kps := putK p.kps x } ⟨a.C, a.e, a.A, a.c, A13, c13⟩).all (·.oneCell') = true) := Lib.hid (brC_one _ _)
            clear hX e0 k hou hw1 hb1 e19 f19 HL HT0 HH HRe
            go_wp2_with (first | refine wpList_load_row (by rfl) 30 _ rfl w.heap.size (by rfl) 30 _ (0, 0) _ Z0.out Tryd.underlying30 rfl (by kernel_rfl) ?_ | refine wpList_store_row (by rfl) 30 _ _ rfl (w.heap.size + 1 + 1) (brC { p with kps := putK p.kps x } ⟨a.C, a.e, a.A, a.c, A13, c13⟩) (by rfl) (by rfl) 30 _ Z2.out (by kernel_rfl) rfl HA.out ?_)
            exact brain_end (k := 4) rfl (by rfl) (setRow_heap _ _ _ _ _ _ Z2.out) rfl ⟨⟨a.C, a.e, a.A, a.c, A13, c13⟩, rfl, HW1.out.rowset Z2.out (by decide) (by decide) (by decide) _, Stp.of_below (below_rowsetB HB1.out (by have := HBs.out; omega) _) HBb.out⟩
          · obtain ⟨W2, hW⟩ : ∃ W, W1.alloc (.cells #[.int .i64 x.id, .int .i64 x.tok, .int .i64 x.ver, .int .i64 x.zone, .int .u8 x.phase, .int .i64 x.since, .bool x.guard, .bool x.done] 32) = W := ⟨_, rfl⟩
            have b_ : Below W1.heap.size W1 W2 := by rw [← hW]; exact (Below.refl _ _).alloc (Nat.le_refl _) _
            have r_ : Whole W2 W1.heap.size 32 #[.int .i64 x.id, .int .i64 x.tok, .int .i64 x.ver, .int .i64 x.zone, .int .u8 x.phase, .int .i64 x.since, .bool x.guard, .bool x.done] := by rw [← hW]; exact Whole.new _ _ _
            go_simp
            clear hW
            have R24_ := Lib.hid (R24.out.under b_)
            clear R24
            have R24 := R24_
            clear R24_
            have HU_ := Lib.hid (HU.out.trans (b_.mono HU.out.size))
            clear HU
            have HU := HU_
            clear HU_
            have R31 := Lib.hid r_
            clear r_ b_
            have HTc : Hid ((fun V' => Whole V' w.heap.size 30 (brC p a) ∧ Whole V' (w.heap.size + 1) 32 #[.int .i64 x.id, .int .i64 x.tok, .int .i64 x.ver, .int .i64 x.zone, .int .u8 x.phase, .int .i64 x.since, .bool x.guard, .bool x.done]) W2) := Lib.hid ⟨Y0.out.under HU.out, Y1.out.under HU.out⟩
            refine hK.out _ _ (fun _ => HTc.out) ?_
            clear hK K HTc
            refine oneT (i := 5) rfl (by kernel_rfl) (by rfl) (fun K hK => ?_)
            obtain ⟨A5, c5, W3, hrun, ho, hg, _⟩ := kps_app W2 U.heap.size _ [] R24.out U.heap.size a.B j a.d (p.kps.take j) (HTk.out.below HU.out) (by have := HJ.out; have := HLk.out; simp; omega) HU.out.size
            simp only [List.length_nil, Nat.zero_add, List.nil_append] at hrun ho
            have b_ : Below U.heap.size W2 W3 := below_row R24.out hg HU.out.size
            have l_ := R31.out.grown hg (by simp only [Value.ownBlock]; intro e; injection e with e; have := HNE.out; omega)
            have HRun := Lib.hid hrun
            refine wp_appendH (by rfl) (by rfl) HRun.out ?_
            simp only [Act.put, List.setIfInBounds_toArray, List.set_cons_zero, List.set_cons_succ]
            clear hrun hg HRun
            have HU_ := Lib.hid (HU.out.trans b_)
            clear HU
            have HU := HU_
            clear HU_ b_
            clear R31
            have R31 := Lib.hid l_
            clear l_
            clear R24
            have R29 := Lib.hid ho
            clear ho
            have HTc : Hid ((fun V' => Whole V' w.heap.size 30 (brC p a) ∧ Whole V' (w.heap.size + 1) 32 #[.int .i64 x.id, .int .i64 x.tok, .int .i64 x.ver, .int .i64 x.zone, .int .u8 x.phase, .int .i64 x.since, .bool x.guard, .bool x.done]) W3) := Lib.hid ⟨Y0.out.under HU.out, Y1.out.under HU.out⟩
            refine hK.out _ _ (fun _ => HTc.out) ?_
            clear hK K HTc
            refine oneT (i := 8) rfl (by kernel_rfl) (by rfl) (fun K hK => ?_)
            obtain ⟨A8, c8, W4, hrun, ho, hg, _⟩ := kps_app W3 U.heap.size _ (p.kps.take j) R29.out (W1.heap.size + 1) (some ⟨W1.heap.size, 0, none⟩) 1 1 [x] (rdK_whole R31.out) (by have := HJ.out; have := HLk.out; simp; omega) HU.out.size
            rw [HLk.out] at hrun ho
            have b_ : Below U.heap.size W3 W4 := below_row R29.out hg HU.out.size
            have HRun := Lib.hid hrun
            refine wp_appendH (by rfl) (by rfl) HRun.out ?_
            simp only [Act.put, List.setIfInBounds_toArray, List.set_cons_zero, List.set_cons_succ]
            clear hrun hg HRun
            have HU_ := Lib.hid (HU.out.trans b_)
            clear HU
            have HU := HU_
            clear HU_ b_
            clear R29
            clear R31
            have R32 := Lib.hid ho
            clear ho
            have HTc : Hid ((fun V' => Whole V' w.heap.size 30 (brC p a) ∧ Whole V' (w.heap.size + 1) 32 #[.int .i64 x.id, .int .i64 x.tok, .int .i64 x.ver, .int .i64 x.zone, .int .u8 x.phase, .int .i64 x.since, .bool x.guard, .bool x.done]) W4) := Lib.hid ⟨Y0.out.under HU.out, Y1.out.under HU.out⟩
            refine hK.out _ _ (fun _ => HTc.out) ?_
            clear hK K HTc
            refine oneT (i := 13) rfl (by kernel_rfl) (by rfl) (fun K hK => ?_)
            obtain ⟨A13, c13, W5, hrun, ho, hg, _⟩ := kps_app W4 U.heap.size _ (p.kps.take j ++ [x]) R32.out U.heap.size A' (p.kps.length - j) (a.d - j) (p.kps.drop j) (HD.out.below HU.out) (by have := HJ.out; have := HLk.out; simp; omega) HU.out.size
            rw [HPL.out] at hrun ho
            rw [← HP.out] at ho
            have b_ : Below U.heap.size W4 W5 := below_row R32.out hg HU.out.size
            have HRun := Lib.hid hrun
            refine wp_appendH (by rfl) (by rfl) HRun.out ?_
            simp only [Act.put, List.setIfInBounds_toArray, List.set_cons_zero, List.set_cons_succ]
            clear hrun hg HRun
            have HU_ := Lib.hid (HU.out.trans b_)
            clear HU
            have HU := HU_
            clear HU_ b_
            clear R32
            have R37 := Lib.hid ho
            clear ho
            have HTc : Hid ((fun V' => Whole V' w.heap.size 30 (brC p a) ∧ Whole V' (w.heap.size + 1) 32 #[.int .i64 x.id, .int .i64 x.tok, .int .i64 x.ver, .int .i64 x.zone, .int .u8 x.phase, .int .i64 x.since, .bool x.guard, .bool x.done]) W5) := Lib.hid ⟨Y0.out.under HU.out, Y1.out.under HU.out⟩
            refine hK.out _ _ (fun _ => HTc.out) ?_
            clear hK K HTc
            refine oneT (i := 14) rfl (by kernel_rfl) (by rfl) (fun K hK => ?_)
            go_simp
            have HTc : Hid ((fun V' => Whole V' w.heap.size 30 (brC p a) ∧ Whole V' (w.heap.size + 1) 32 #[.int .i64 x.id, .int .i64 x.tok, .int .i64 x.ver, .int .i64 x.zone, .int .u8 x.phase, .int .i64 x.since, .bool x.guard, .bool x.done]) W5) := Lib.hid ⟨Y0.out.under HU.out, Y1.out.under HU.out⟩
            refine hK.out _ _ (fun _ => HTc.out) ?_
            clear hK K HTc
            have e19 : W5.cell? ⟨w.heap.size, 19, none⟩ = some (.slice a.B p.kps.length a.d) := (Y0.out.under HU.out).cell 19
            have f19 := (Y0.out.under HU.out).frozen 19
            refine oneL (i := 15) (by kernel_rfl) rfl (by kernel_rfl) (by rfl) (fun K hK => ?_)
            go_simp
            refine hK.out _ _ ?_
            clear hK K
            refine doneT (by kernel_rfl) ?_ _
            go_upto_region 5 with fail
            refine wpV (fun X hX => ?_)
            have e0 := set19L (Y0.out.under HU.out) (putK p.kps x) A13 c13
            have k := Only.set W5 w.heap.size 19 (.slice A13 (putK p.kps x).length c13)
            rw [hX] at e0 k
            have Z0 := Lib.hid e0
            have Z2 := Lib.hid (k.far (Y2.out.under HU.out) (by omega))
            have hou := HOU.out.under HU.out
            have hw1 : OwB base X { p with kps := putK p.kps x } ⟨a.C, a.e, a.A, a.c, A13, c13⟩ := ⟨k.own hou.ms (Y0.out.under HU.out) (by decide), hou.its.only k (Y0.out.under HU.out) (by decide), (R37.out.only k (Y0.out.under HU.out) (by decide)).weaker (Nat.le_trans HBb.out HSU.out)⟩
            have hb1 := k.bel (HBU.out.trans (HU.out.mono HSU.out)) HBs.out
            have HW1 := Lib.hid hw1
            have HB1 := Lib.hid hb1
            have HA : Hid ((brC { p with kps := putK p.kps x } ⟨a.C, a.e, a.A, a.c, A13, c13⟩).all (·.oneCell') = true) := Lib.hid (brC_one _ _)
            clear hX e0 k hou hw1 hb1 e19 f19 HL HT0 HH HRe
            go_wp2_with (first | refine wpList_load_row (by rfl) 30 _ rfl w.heap.size (by rfl) 30 _ (0, 0) _ Z0.out Tryd.underlying30 rfl (by kernel_rfl) ?_ | refine wpList_store_row (by rfl) 30 _ _ rfl (w.heap.size + 1 + 1) (brC { p with kps := putK p.kps x } ⟨a.C, a.e, a.A, a.c, A13, c13⟩) (by rfl) (by rfl) 30 _ Z2.out (by kernel_rfl) rfl HA.out ?_)
            exact brain_end (k := 4) rfl (by rfl) (setRow_heap _ _ _ _ _ _ Z2.out) rfl ⟨⟨a.C, a.e, a.A, a.c, A13, c13⟩, rfl, HW1.out.rowset Z2.out (by decide) (by decide) (by decide) _, Stp.of_below (below_rowsetB HB1.out (by have := HBs.out; omega) _) HBb.out⟩
        · obtain ⟨W1, hW⟩ : ∃ W, U.drew.alloc (.cells #[.int .i64 x.id, .int .i64 x.tok, .int .i64 x.ver, .int .i64 x.zone, .int .u8 x.phase, .int .i64 x.since, .bool x.guard, .bool x.done] 32) = W := ⟨_, rfl⟩
          have b_ : Below U.drew.heap.size U.drew W1 := by rw [← hW]; exact (Below.refl _ _).alloc (Nat.le_refl _) _
          have r_ : Whole W1 U.drew.heap.size 32 #[.int .i64 x.id, .int .i64 x.tok, .int .i64 x.ver, .int .i64 x.zone, .int .u8 x.phase, .int .i64 x.since, .bool x.guard, .bool x.done] := by rw [← hW]; exact Whole.new _ _ _
          have HNE := Lib.hid (show W1.heap.size = U.drew.heap.size + 1 by rw [← hW, World.size_alloc])
          go_simp
          clear hW
          have HU_ := Lib.hid (HU.out.trans (b_.mono HU.out.size))
          clear HU
          have HU := HU_
          clear HU_
          have R31 := Lib.hid r_
          clear r_ b_
          have HTc : Hid ((fun V' => Whole V' w.heap.size 30 (brC p a) ∧ Whole V' (w.heap.size + 1) 32 #[.int .i64 x.id, .int .i64 x.tok, .int .i64 x.ver, .int .i64 x.zone, .int .u8 x.phase, .int .i64 x.since, .bool x.guard, .bool x.done]) W1) := Lib.hid ⟨Y0.out.under HU.out, Y1.out.under HU.out⟩
          refine hK.out _ _ (fun _ => HTc.out) ?_
          clear hK K HTc
          refine oneT (i := 0) rfl (by kernel_rfl) (by rfl) (fun K hK => ?_)
          obtain ⟨W2, hW⟩ : ∃ W, W1.alloc (.cells #[] 32) = W := ⟨_, rfl⟩
          have b_ : Below W1.heap.size W1 W2 := by rw [← hW]; exact (Below.refl _ _).alloc (Nat.le_refl _) _
          have r_ : KpsAt U.heap.size W2 (.slice (some ⟨W1.heap.size, 0, none⟩) 0 0) [] := by rw [← hW]; exact World.ownsRow_made (base := U.heap.size) (e := 32) (size := 8) W1 #[] 0 HU.out.size (Nat.zero_le _) rfl
          go_simp
          clear hW
          have R31_ := Lib.hid (R31.out.under b_)
          clear R31
          have R31 := R31_
          clear R31_
          have HU_ := Lib.hid (HU.out.trans (b_.mono HU.out.size))
          clear HU
          have HU := HU_
          clear HU_
          have R24 := Lib.hid r_
          clear r_ b_
          have HTc : Hid ((fun V' => Whole V' w.heap.size 30 (brC p a) ∧ Whole V' (w.heap.size + 1) 32 #[.int .i64 x.id, .int .i64 x.tok, .int .i64 x.ver, .int .i64 x.zone, .int .u8 x.phase, .int .i64 x.since, .bool x.guard, .bool x.done]) W2) := Lib.hid ⟨Y0.out.under HU.out, Y1.out.under HU.out⟩
          refine hK.out _ _ (fun _ => HTc.out) ?_
          clear hK K HTc
          refine oneT (i := 5) rfl (by kernel_rfl) (by rfl) (fun K hK => ?_)
          obtain ⟨A5, c5, W3, hrun, ho, hg, _⟩ := kps_app W2 U.heap.size _ [] R24.out U.heap.size a.B j a.d (p.kps.take j) (HTk.out.below HU.out) (by have := HJ.out; have := HLk.out; simp; omega) HU.out.size
          simp only [List.length_nil, Nat.zero_add, List.nil_append] at hrun ho
          have b_ : Below U.heap.size W2 W3 := below_row R24.out hg HU.out.size
          have l_ := R31.out.grown hg (by simp only [Value.ownBlock]; intro e; injection e with e; have := HNE.out; omega)
          have HRun := Lib.hid hrun
          refine wp_appendH (by rfl) (by rfl) HRun.out ?_
          simp only [Act.put, List.setIfInBounds_toArray, List.set_cons_zero, List.set_cons_succ]
          clear hrun hg HRun
          have HU_ := Lib.hid (HU.out.trans b_)
          clear HU
          have HU := HU_
          clear HU_ b_
          clear R31
          have R31 := Lib.hid l_
          clear l_
          clear R24
          have R29 := Lib.hid ho
          clear ho
          have HTc : Hid ((fun V' => Whole V' w.heap.size 30 (brC p a) ∧ Whole V' (w.heap.size + 1) 32 #[.int .i64 x.id, .int .i64 x.tok, .int .i64 x.ver, .int .i64 x.zone, .int .u8 x.phase, .int .i64 x.since, .bool x.guard, .bool x.done]) W3) := Lib.hid ⟨Y0.out.under HU.out, Y1.out.under HU.out⟩
          refine hK.out _ _ (fun _ => HTc.out) ?_
          clear hK K HTc
          refine oneT (i := 8) rfl (by kernel_rfl) (by rfl) (fun K hK => ?_)
          obtain ⟨A8, c8, W4, hrun, ho, hg, _⟩ := kps_app W3 U.heap.size _ (p.kps.take j) R29.out (U.drew.heap.size + 1) (some ⟨U.drew.heap.size, 0, none⟩) 1 1 [x] (rdK_whole R31.out) (by have := HJ.out; have := HLk.out; simp; omega) HU.out.size
          rw [HLk.out] at hrun ho
          have b_ : Below U.heap.size W3 W4 := below_row R29.out hg HU.out.size
          have HRun := Lib.hid hrun
          refine wp_appendH (by rfl) (by rfl) HRun.out ?_
          simp only [Act.put, List.setIfInBounds_toArray, List.set_cons_zero, List.set_cons_succ]
          clear hrun hg HRun
          have HU_ := Lib.hid (HU.out.trans b_)
          clear HU
          have HU := HU_
          clear HU_ b_
          clear R29
          clear R31
          have R32 := Lib.hid ho
          clear ho
          have HTc : Hid ((fun V' => Whole V' w.heap.size 30 (brC p a) ∧ Whole V' (w.heap.size + 1) 32 #[.int .i64 x.id, .int .i64 x.tok, .int .i64 x.ver, .int .i64 x.zone, .int .u8 x.phase, .int .i64 x.since, .bool x.guard, .bool x.done]) W4) := Lib.hid ⟨Y0.out.under HU.out, Y1.out.under HU.out⟩
          refine hK.out _ _ (fun _ => HTc.out) ?_
          clear hK K HTc
          refine oneT (i := 13) rfl (by kernel_rfl) (by rfl) (fun K hK => ?_)
          obtain ⟨A13, c13, W5, hrun, ho, hg, _⟩ := kps_app W4 U.heap.size _ (p.kps.take j ++ [x]) R32.out U.heap.size A' (p.kps.length - j) (a.d - j) (p.kps.drop j) (HD.out.below HU.out) (by have := HJ.out; have := HLk.out; simp; omega) HU.out.size
          rw [HPL.out] at hrun ho
          rw [← HP.out] at ho
          have b_ : Below U.heap.size W4 W5 := below_row R32.out hg HU.out.size
          have HRun := Lib.hid hrun
          refine wp_appendH (by rfl) (by rfl) HRun.out ?_
          simp only [Act.put, List.setIfInBounds_toArray, List.set_cons_zero, List.set_cons_succ]
          clear hrun hg HRun
          have HU_ := Lib.hid (HU.out.trans b_)
          clear HU
          have HU := HU_
          clear HU_ b_
          clear R32
          have R37 := Lib.hid ho
          clear ho
          have HTc : Hid ((fun V' => Whole V' w.heap.size 30 (brC p a) ∧ Whole V' (w.heap.size + 1) 32 #[.int .i64 x.id, .int .i64 x.tok, .int .i64 x.ver, .int .i64 x.zone, .int .u8 x.phase, .int .i64 x.since, .bool x.guard, .bool x.done]) W5) := Lib.hid ⟨Y0.out.under HU.out, Y1.out.under HU.out⟩
          refine hK.out _ _ (fun _ => HTc.out) ?_
          clear hK K HTc
          refine oneT (i := 14) rfl (by kernel_rfl) (by rfl) (fun K hK => ?_)
          go_simp
          have HTc : Hid ((fun V' => Whole V' w.heap.size 30 (brC p a) ∧ Whole V' (w.heap.size + 1) 32 #[.int .i64 x.id, .int .i64 x.tok, .int .i64 x.ver, .int .i64 x.zone, .int .u8 x.phase, .int .i64 x.since, .bool x.guard, .bool x.done]) W5) := Lib.hid ⟨Y0.out.under HU.out, Y1.out.under HU.out⟩
          refine hK.out _ _ (fun _ => HTc.out) ?_
          clear hK K HTc
          have e19 : W5.cell? ⟨w.heap.size, 19, none⟩ = some (.slice a.B p.kps.length a.d) := (Y0.out.under HU.out).cell 19
          have f19 := (Y0.out.under HU.out).frozen 19
          refine oneL (i := 15) (by kernel_rfl) rfl (by kernel_rfl) (by rfl) (fun K hK => ?_)
          go_simp
          refine hK.out _ _ ?_
          clear hK K
          refine doneT (by kernel_rfl) ?_ _
          go_upto_region 5 with fail
          refine wpV (fun X hX => ?_)
          have e0 := set19L (Y0.out.under HU.out) (putK p.kps x) A13 c13
          have k := Only.set W5 w.heap.size 19 (.slice A13 (putK p.kps x).length c13)
          rw [hX] at e0 k
          have Z0 := Lib.hid e0
          have Z2 := Lib.hid (k.far (Y2.out.under HU.out) (by omega))
          have hou := HOU.out.under HU.out
          have hw1 : OwB base X { p with kps := putK p.kps x } ⟨a.C, a.e, a.A, a.c, A13, c13⟩ := ⟨k.own hou.ms (Y0.out.under HU.out) (by decide), hou.its.only k (Y0.out.under HU.out) (by decide), (R37.out.only k (Y0.out.under HU.out) (by decide)).weaker (Nat.le_trans HBb.out HSU.out)⟩
          have hb1 := k.bel (HBU.out.trans (HU.out.mono HSU.out)) HBs.out
          have HW1 := Lib.hid hw1
          have HB1 := Lib.hid hb1
          have HA : Hid ((brC { p with kps := putK p.kps x } ⟨a.C, a.e, a.A, a.c, A13, c13⟩).all (·.oneCell') = true) := Lib.hid (brC_one _ _)
          clear hX e0 k hou hw1 hb1 e19 f19 HL HT0 HH HRe
          go_wp2_with (first | refine wpList_load_row (by rfl) 30 _ rfl w.heap.size (by rfl) 30 _ (0, 0) _ Z0.out Tryd.underlying30 rfl (by kernel_rfl) ?_ | refine wpList_store_row (by rfl) 30 _ _ rfl (w.heap.size + 1 + 1) (brC { p with kps := putK p.kps x } ⟨a.C, a.e, a.A, a.c, A13, c13⟩) (by rfl) (by rfl) 30 _ Z2.out (by kernel_rfl) rfl HA.out ?_)
          exact brain_end (k := 4) rfl (by rfl) (setRow_heap _ _ _ _ _ _ Z2.out) rfl ⟨⟨a.C, a.e, a.A, a.c, A13, c13⟩, rfl, HW1.out.rowset Z2.out (by decide) (by decide) (by decide) _, Stp.of_below (below_rowsetB HB1.out (by have := HBs.out; omega) _) HBb.out⟩
    · have HP := Lib.hid (putK_at HT.out (fun z hz => by rw [List.getElem?_eq_none (by omega)] at hz; cases hz))
      go_wp2_with fail
      go_quiet (fail)
      clear hlt
      go_upto_region 4 with fail
      clear c19 z0
      refine wpV (fun U hU => ?_)
      have bU : Below V.heap.size V U := by rw [← hU]; first | exact below_drewB (below_drewB (Below.refl _ V) _) _ | exact below_drewB (Below.refl _ V) _
      have Y0 := Lib.hid (X0.out.under bU)
      have Y1 := Lib.hid (X1.out.under bU)
      have Y2 := Lib.hid (X2.out.under bU)
      have HOU := Lib.hid (HO.out.under bU)
      have HBU := Lib.hid (HB.out.trans (bU.mono HSz.out))
      have HSU := Lib.hid (Nat.le_trans HSz.out bU.size)
      clear hU bU X0 X1 X2 HO HB HSz
      have HR := Lib.hid (show RdK U U.heap.size a.B p.kps.length p.kps from HOU.out.kps.read)
      have hhead := fun W => run_headF Tryd.underlying26 rfl info_kp a.B p.kps.length a.d j (by have := HCd.out; omega) W
      obtain ⟨A', hrest, hA'⟩ := run_restF Tryd.underlying26 rfl info_kp a.B p.kps.length a.d j hj
      have HH := Lib.hid hhead
      have HRe := Lib.hid hrest
      have HD := Lib.hid (show RdK U U.heap.size A' (p.kps.length - j) (p.kps.drop j) from HR.out.drop hj (fun h b off e => hA' ⟨h, HCd.out⟩ b off e))
      have HTk := Lib.hid (show RdK U U.heap.size a.B j (p.kps.take j) from HR.out.take hj)
      clear hhead hrest hA'
      have HLk := Lib.hid (show (p.kps.take j).length = j by rw [List.length_take]; omega)
      have HJ := Lib.hid hj
      have HPL := Lib.hid (show (p.kps.take j ++ [x]).length + (p.kps.length - j) = (putK p.kps x).length by rw [HP.out]; simp only [List.length_append, List.length_take, List.length_drop, List.length_singleton])
      have HT0 : Hid ((fun V' => Whole V' w.heap.size 30 (brC p a) ∧ Whole V' (w.heap.size + 1) 32 #[.int .i64 x.id, .int .i64 x.tok, .int .i64 x.ver, .int .i64 x.zone, .int .u8 x.phase, .int .i64 x.since, .bool x.guard, .bool x.done]) U.drew) := Lib.hid ⟨Y0.out, Y1.out⟩
      have HL : Hid (∀ V', (fun V' => Whole V' w.heap.size 30 (brC p a) ∧ Whole V' (w.heap.size + 1) 32 #[.int .i64 x.id, .int .i64 x.tok, .int .i64 x.ver, .int .i64 x.zone, .int .u8 x.phase, .int .i64 x.since, .bool x.guard, .bool x.done]) V' → V'.cell? ⟨w.heap.size, 19, none⟩ = some (.slice a.B p.kps.length a.d) ∧ V'.cell? ⟨w.heap.size + 1, 0, none⟩ = some (.int .i64 x.id) ∧ V'.cell? ⟨w.heap.size + 1, 1, none⟩ = some (.int .i64 x.tok) ∧ V'.cell? ⟨w.heap.size + 1, 2, none⟩ = some (.int .i64 x.ver) ∧ V'.cell? ⟨w.heap.size + 1, 3, none⟩ = some (.int .i64 x.zone) ∧ V'.cell? ⟨w.heap.size + 1, 4, none⟩ = some (.int .u8 x.phase) ∧ V'.cell? ⟨w.heap.size + 1, 5, none⟩ = some (.int .i64 x.since) ∧ V'.cell? ⟨w.heap.size + 1, 6, none⟩ = some (.bool x.guard) ∧ V'.cell? ⟨w.heap.size + 1, 7, none⟩ = some (.bool x.done)) := Lib.hid (fun V' h => ⟨h.1.cell 19, h.2.cell 0, h.2.cell 1, h.2.cell 2, h.2.cell 3, h.2.cell 4, h.2.cell 5, h.2.cell 6, h.2.cell 7⟩)
      have HU := Lib.hid (show Below U.heap.size U U.drew from below_drewB (Below.refl _ U) 1)
      refine wp_region_T (ls := [15]) (T := (fun V' => Whole V' w.heap.size 30 (brC p a) ∧ Whole V' (w.heap.size + 1) 32 #[.int .i64 x.id, .int .i64 x.tok, .int .i64 x.ver, .int .i64 x.zone, .int .u8 x.phase, .int .i64 x.since, .bool x.guard, .bool x.done])) (by kernel_rfl) ?_
      refine takeP (i := 1) (v := ?_) rfl (by kernel_rfl) (by kernel_rfl) (by kernel_rfl) (by kernel_rfl) (fun _ _ _ h => h) (by rfl) ?_ (fun _ => HT0.out) ?_
      rotate_left
      · intro V'; go_simp <;> with_reducible rfl
      simp only [Act.put, List.setIfInBounds_toArray, List.set_cons_zero, List.set_cons_succ]
      refine takeT (i := 2) (v := ?_) rfl (by kernel_rfl) (by kernel_rfl) (by kernel_rfl) (by kernel_rfl) (fun _ _ _ h => h) (by rfl) ?_ HT0.out ?_
      rotate_left
      · intro V' hV; obtain ⟨y19, y0, y1, y2, y3, y4, y5, y6, y7⟩ := HL.out V' hV; go_simp <;> with_reducible rfl
      simp only [Act.put, List.setIfInBounds_toArray, List.set_cons_zero, List.set_cons_succ]
      refine takeP (i := 3) (v := ?_) rfl (by kernel_rfl) (by kernel_rfl) (by kernel_rfl) (by kernel_rfl) (fun _ _ _ h => h) (by rfl) ?_ (fun _ => HT0.out) ?_
      rotate_left
      · intro V'; go_simp <;> with_reducible rfl
      simp only [Act.put, List.setIfInBounds_toArray, List.set_cons_zero, List.set_cons_succ]
      refine takeP (i := 4) (v := .slice a.B j a.d) rfl (by kernel_rfl) (by kernel_rfl) (by kernel_rfl) (by kernel_rfl) (fun _ _ _ h => h) (by rfl) ?_ (fun _ => HT0.out) ?_
      · intro V'; have hs := HH.out V'; go_simp <;> with_reducible rfl
      simp only [Act.put, List.setIfInBounds_toArray, List.set_cons_zero, List.set_cons_succ]
      refine takeT (i := 6) (v := ?_) rfl (by kernel_rfl) (by kernel_rfl) (by kernel_rfl) (by kernel_rfl) (fun _ _ _ h => h) (by rfl) ?_ HT0.out ?_
      rotate_left
      · intro V' hV; obtain ⟨y19, y0, y1, y2, y3, y4, y5, y6, y7⟩ := HL.out V' hV; go_simp <;> with_reducible rfl
      simp only [Act.put, List.setIfInBounds_toArray, List.set_cons_zero, List.set_cons_succ]
      refine takeP (i := 9) (v := ?_) rfl (by kernel_rfl) (by kernel_rfl) (by kernel_rfl) (by kernel_rfl) (fun _ _ _ h => h) (by rfl) ?_ (fun _ => HT0.out) ?_
      rotate_left
      · intro V'; go_simp <;> with_reducible rfl
      simp only [Act.put, List.setIfInBounds_toArray, List.set_cons_zero, List.set_cons_succ]
      refine takeT (i := 10) (v := ?_) rfl (by kernel_rfl) (by kernel_rfl) (by kernel_rfl) (by kernel_rfl) (fun _ _ _ h => h) (by rfl) ?_ HT0.out ?_
      rotate_left
      · intro V' hV; obtain ⟨y19, y0, y1, y2, y3, y4, y5, y6, y7⟩ := HL.out V' hV; go_simp <;> with_reducible rfl
      simp only [Act.put, List.setIfInBounds_toArray, List.set_cons_zero, List.set_cons_succ]
      refine takeP (i := 11) (v := ?_) rfl (by kernel_rfl) (by kernel_rfl) (by kernel_rfl) (by kernel_rfl) (fun _ _ _ h => h) (by rfl) ?_ (fun _ => HT0.out) ?_
      rotate_left
      · intro V'; go_simp <;> with_reducible rfl
      simp only [Act.put, List.setIfInBounds_toArray, List.set_cons_zero, List.set_cons_succ]
      refine takeP (i := 12) (v := .slice A' (p.kps.length - j) (a.d - j)) rfl (by kernel_rfl) (by kernel_rfl) (by kernel_rfl) (by kernel_rfl) (fun _ _ _ h => h) (by rfl) ?_ (fun _ => HT0.out) ?_
      · intro V'; have hs := HRe.out V'; go_simp <;> with_reducible rfl
      simp only [Act.put, List.setIfInBounds_toArray, List.set_cons_zero, List.set_cons_succ]
      refine twoT (i := 0) (j := 7) rfl rfl (by kernel_rfl) (by rfl) (by rfl) (fun K hK => ?_) (fun K hK => ?_)
      · obtain ⟨W1, hW⟩ : ∃ W, U.drew.alloc (.cells #[] 32) = W := ⟨_, rfl⟩
        have b_ : Below U.drew.heap.size U.drew W1 := by rw [← hW]; exact (Below.refl _ _).alloc (Nat.le_refl _) _
        have r_ : KpsAt U.heap.size W1 (.slice (some ⟨U.drew.heap.size, 0, none⟩) 0 0) [] := by rw [← hW]; exact World.ownsRow_made (base := U.heap.size) (e := 32) (size := 8) U.drew #[] 0 HU.out.size (Nat.zero_le _) rfl
        have HNE := Lib.hid (show W1.heap.size = U.drew.heap.size + 1 by rw [← hW, World.size_alloc])
        go_simp
        clear hW
        have HU_ := Lib.hid (HU.out.trans (b_.mono HU.out.size))
        clear HU
        have HU := HU_
        clear HU_
        have R24 := Lib.hid r_
        clear r_ b_
        have HTc : Hid ((fun V' => Whole V' w.heap.size 30 (brC p a) ∧ Whole V' (w.heap.size + 1) 32 #[.int .i64 x.id, .int .i64 x.tok, .int .i64 x.ver, .int .i64 x.zone, .int .u8 x.phase, .int .i64 x.since, .bool x.guard, .bool x.done]) W1) := Lib.hid ⟨Y0.out.under HU.out, Y1.out.under HU.out⟩
        refine hK.out _ _ (fun _ => HTc.out) ?_
        clear hK K HTc
        refine twoT (i := 5) (j := 7) rfl rfl (by kernel_rfl) (by rfl) (by rfl) (fun K hK => ?_) (fun K hK => ?_)
        · obtain ⟨A5, c5, W2, hrun, ho, hg, _⟩ := kps_app W1 U.heap.size _ [] R24.out U.heap.size a.B j a.d (p.kps.take j) (HTk.out.below HU.out) (by have := HJ.out; have := HLk.out; simp; omega) HU.out.size
          simp only [List.length_nil, Nat.zero_add, List.nil_append] at hrun ho
          have b_ : Below U.heap.size W1 W2 := below_row R24.out hg HU.out.size
          have HRun := Lib.hid hrun
          refine wp_appendH (by rfl) (by rfl) HRun.out ?_
          simp only [Act.put, List.setIfInBounds_toArray, List.set_cons_zero, List.set_cons_succ]
          clear hrun hg HRun
          have HU_ := Lib.hid (HU.out.trans b_)
          clear HU
          have HU := HU_
          clear HU_ b_
          clear R24
          have R29 := Lib.hid ho
          clear ho
          have HTc : Hid ((fun V' => Whole V' w.heap.size 30 (brC p a) ∧ Whole V' (w.heap.size + 1) 32 #[.int .i64 x.id, .int .i64 x.tok, .int .i64 x.ver, .int .i64 x.zone, .int .u8 x.phase, .int .i64 x.since, .bool x.guard, .bool x.done]) W2) := Lib.hid ⟨Y0.out.under HU.out, Y1.out.under HU.out⟩
          refine hK.out _ _ (fun _ => HTc.out) ?_
          clear hK K HTc
          refine oneT (i := 7) rfl (by kernel_rfl) (by rfl) (fun K hK => ?_)
          obtain ⟨W3, hW⟩ : ∃ W, W2.alloc (.cells #[.int .i64 x.id, .int .i64 x.tok, .int .i64 x.ver, .int .i64 x.zone, .int .u8 x.phase, .int .i64 x.since, .bool x.guard, .bool x.done] 32) = W := ⟨_, rfl⟩
          have b_ : Below W2.heap.size W2 W3 := by rw [← hW]; exact (Below.refl _ _).alloc (Nat.le_refl _) _
          have r_ : Whole W3 W2.heap.size 32 #[.int .i64 x.id, .int .i64 x.tok, .int .i64 x.ver, .int .i64 x.zone, .int .u8 x.phase, .int .i64 x.since, .bool x.guard, .bool x.done] := by rw [← hW]; exact Whole.new _ _ _
          go_simp
          clear hW
          have R29_ := Lib.hid (R29.out.under b_)
          clear R29
          have R29 := R29_
          clear R29_
          have HU_ := Lib.hid (HU.out.trans (b_.mono HU.out.size))
          clear HU
          have HU := HU_
          clear HU_
          have R31 := Lib.hid r_
          clear r_ b_
          have HTc : Hid ((fun V' => Whole V' w.heap.size 30 (brC p a) ∧ Whole V' (w.heap.size + 1) 32 #[.int .i64 x.id, .int .i64 x.tok, .int .i64 x.ver, .int .i64 x.zone, .int .u8 x.phase, .int .i64 x.since, .bool x.guard, .bool x.done]) W3) := Lib.hid ⟨Y0.out.under HU.out, Y1.out.under HU.out⟩
          refine hK.out _ _ (fun _ => HTc.out) ?_
          clear hK K HTc
          refine oneT (i := 8) rfl (by kernel_rfl) (by rfl) (fun K hK => ?_)
          obtain ⟨A8, c8, W4, hrun, ho, hg, _⟩ := kps_app W3 U.heap.size _ (p.kps.take j) R29.out (W2.heap.size + 1) (some ⟨W2.heap.size, 0, none⟩) 1 1 [x] (rdK_whole R31.out) (by have := HJ.out; have := HLk.out; simp; omega) HU.out.size
          rw [HLk.out] at hrun ho
          have b_ : Below U.heap.size W3 W4 := below_row R29.out hg HU.out.size
          have HRun := Lib.hid hrun
          refine wp_appendH (by rfl) (by rfl) HRun.out ?_
          simp only [Act.put, List.setIfInBounds_toArray, List.set_cons_zero, List.set_cons_succ]
          clear hrun hg HRun
          have HU_ := Lib.hid (HU.out.trans b_)
          clear HU
          have HU := HU_
          clear HU_ b_
          clear R29
          clear R31
          have R32 := Lib.hid ho
          clear ho
          have HTc : Hid ((fun V' => Whole V' w.heap.size 30 (brC p a) ∧ Whole V' (w.heap.size + 1) 32 #[.int .i64 x.id, .int .i64 x.tok, .int .i64 x.ver, .int .i64 x.zone, .int .u8 x.phase, .int .i64 x.since, .bool x.guard, .bool x.done]) W4) := Lib.hid ⟨Y0.out.under HU.out, Y1.out.under HU.out⟩
          refine hK.out _ _ (fun _ => HTc.out) ?_
          clear hK K HTc
          refine oneT (i := 13) rfl (by kernel_rfl) (by rfl) (fun K hK => ?_)
          obtain ⟨A13, c13, W5, hrun, ho, hg, _⟩ := kps_app W4 U.heap.size _ (p.kps.take j ++ [x]) R32.out U.heap.size A' (p.kps.length - j) (a.d - j) (p.kps.drop j) (HD.out.below HU.out) (by have := HJ.out; have := HLk.out; simp; omega) HU.out.size
          rw [HPL.out] at hrun ho
          rw [← HP.out] at ho
          have b_ : Below U.heap.size W4 W5 := below_row R32.out hg HU.out.size
          have HRun := Lib.hid hrun
          refine wp_appendH (by rfl) (by rfl) HRun.out ?_
          simp only [Act.put, List.setIfInBounds_toArray, List.set_cons_zero, List.set_cons_succ]
          clear hrun hg HRun
          have HU_ := Lib.hid (HU.out.trans b_)
          clear HU
          have HU := HU_
          clear HU_ b_
          clear R32
          have R37 := Lib.hid ho
          clear ho
          have HTc : Hid ((fun V' => Whole V' w.heap.size 30 (brC p a) ∧ Whole V' (w.heap.size + 1) 32 #[.int .i64 x.id, .int .i64 x.tok, .int .i64 x.ver, .int .i64 x.zone, .int .u8 x.phase, .int .i64 x.since, .bool x.guard, .bool x.done]) W5) := Lib.hid ⟨Y0.out.under HU.out, Y1.out.under HU.out⟩
          refine hK.out _ _ (fun _ => HTc.out) ?_
          clear hK K HTc
          refine oneT (i := 14) rfl (by kernel_rfl) (by rfl) (fun K hK => ?_)
          go_simp
          have HTc : Hid ((fun V' => Whole V' w.heap.size 30 (brC p a) ∧ Whole V' (w.heap.size + 1) 32 #[.int .i64 x.id, .int .i64 x.tok, .int .i64 x.ver, .int .i64 x.zone, .int .u8 x.phase, .int .i64 x.since, .bool x.guard, .bool x.done]) W5) := Lib.hid ⟨Y0.out.under HU.out, Y1.out.under HU.out⟩
          refine hK.out _ _ (fun _ => HTc.out) ?_
          clear hK K HTc
          have e19 : W5.cell? ⟨w.heap.size, 19, none⟩ = some (.slice a.B p.kps.length a.d) := (Y0.out.under HU.out).cell 19
          have f19 := (Y0.out.under HU.out).frozen 19
          refine oneL (i := 15) (by kernel_rfl) rfl (by kernel_rfl) (by rfl) (fun K hK => ?_)
          go_simp
          refine hK.out _ _ ?_
          clear hK K
          refine doneT (by kernel_rfl) ?_ _
          go_upto_region 5 with fail
          refine wpV (fun X hX => ?_)
          have e0 := set19L (Y0.out.under HU.out) (putK p.kps x) A13 c13
          have k := Only.set W5 w.heap.size 19 (.slice A13 (putK p.kps x).length c13)
          rw [hX] at e0 k
          have Z0 := Lib.hid e0
          have Z2 := Lib.hid (k.far (Y2.out.under HU.out) (by omega))
          have hou := HOU.out.under HU.out
          have hw1 : OwB base X { p with kps := putK p.kps x } ⟨a.C, a.e, a.A, a.c, A13, c13⟩ := ⟨k.own hou.ms (Y0.out.under HU.out) (by decide), hou.its.only k (Y0.out.under HU.out) (by decide), (R37.out.only k (Y0.out.under HU.out) (by decide)).weaker (Nat.le_trans HBb.out HSU.out)⟩
          have hb1 := k.bel (HBU.out.trans (HU.out.mono HSU.out)) HBs.out
          have HW1 := Lib.hid hw1
          have HB1 := Lib.hid hb1
          have HA : Hid ((brC { p with kps := putK p.kps x } ⟨a.C, a.e, a.A, a.c, A13, c13⟩).all (·.oneCell') = true) := Lib.hid (brC_one _ _)
          clear hX e0 k hou hw1 hb1 e19 f19 HL HT0 HH HRe
          go_wp2_with (first | refine wpList_load_row (by rfl) 30 _ rfl w.heap.size (by rfl) 30 _ (0, 0) _ Z0.out Tryd.underlying30 rfl (by kernel_rfl) ?_ | refine wpList_store_row (by rfl) 30 _ _ rfl (w.heap.size + 1 + 1) (brC { p with kps := putK p.kps x } ⟨a.C, a.e, a.A, a.c, A13, c13⟩) (by rfl) (by rfl) 30 _ Z2.out (by kernel_rfl) rfl HA.out ?_)
          exact brain_end (k := 4) rfl (by rfl) (setRow_heap _ _ _ _ _ _ Z2.out) rfl ⟨⟨a.C, a.e, a.A, a.c, A13, c13⟩, rfl, HW1.out.rowset Z2.out (by decide) (by decide) (by decide) _, Stp.of_below (below_rowsetB HB1.out (by have := HBs.out; omega) _) HBb.out⟩
        · obtain ⟨W2, hW⟩ : ∃ W, W1.alloc (.cells #[.int .i64 x.id, .int .i64 x.tok, .int .i64 x.ver, .int .i64 x.zone, .int .u8 x.phase, .int .i64 x.since, .bool x.guard, .bool x.done] 32) = W := ⟨_, rfl⟩
          have b_ : Below W1.heap.size W1 W2 := by rw [← hW]; exact (Below.refl _ _).alloc (Nat.le_refl _) _
          have r_ : Whole W2 W1.heap.size 32 #[.int .i64 x.id, .int .i64 x.tok, .int .i64 x.ver, .int .i64 x.zone, .int .u8 x.phase, .int .i64 x.since, .bool x.guard, .bool x.done] := by rw [← hW]; exact Whole.new _ _ _
          go_simp
          clear hW
          have R24_ := Lib.hid (R24.out.under b_)
          clear R24
          have R24 := R24_
          clear R24_
          have HU_ := Lib.hid (HU.out.trans (b_.mono HU.out.size))
          clear HU
          have HU := HU_
          clear HU_
          have R31 := Lib.hid r_
          clear r_ b_
          have HTc : Hid ((fun V' => Whole V' w.heap.size 30 (brC p a) ∧ Whole V' (w.heap.size + 1) 32 #[.int .i64 x.id, .int .i64 x.tok, .int .i64 x.ver, .int .i64 x.zone, .int .u8 x.phase, .int .i64 x.since, .bool x.guard, .bool x.done]) W2) := Lib.hid ⟨Y0.out.under HU.out, Y1.out.under HU.out⟩
          refine hK.out _ _ (fun _ => HTc.out) ?_
          clear hK K HTc
          refine oneT (i := 5) rfl (by kernel_rfl) (by rfl) (fun K hK => ?_)
          obtain ⟨A5, c5, W3, hrun, ho, hg, _⟩ := kps_app W2 U.heap.size _ [] R24.out U.heap.size a.B j a.d (p.kps.take j) (HTk.out.below HU.out) (by have := HJ.out; have := HLk.out; simp; omega) HU.out.size
          simp only [List.length_nil, Nat.zero_add, List.nil_append] at hrun ho
          have b_ : Below U.heap.size W2 W3 := below_row R24.out hg HU.out.size
          have l_ := R31.out.grown hg (by simp only [Value.ownBlock]; intro e; injection e with e; have := HNE.out; omega)
          have HRun := Lib.hid hrun
          refine wp_appendH (by rfl) (by rfl) HRun.out ?_
          simp only [Act.put, List.setIfInBounds_toArray, List.set_cons_zero, List.set_cons_succ]
          clear hrun hg HRun
          have HU_ := Lib.hid (HU.out.trans b_)
          clear HU
          have HU := HU_
          clear HU_ b_
          clear R31
          have R31 := Lib.hid l_
          clear l_
          clear R24
          have R29 := Lib.hid ho
          clear ho
          have HTc : Hid ((fun V' => Whole V' w.heap.size 30 (brC p a) ∧ Whole V' (w.heap.size + 1) 32 #[.int .i64 x.id, .int .i64 x.tok, .int .i64 x.ver, .int .i64 x.zone, .int .u8 x.phase, .int .i64 x.since, .bool x.guard, .bool x.done]) W3) := Lib.hid ⟨Y0.out.under HU.out, Y1.out.under HU.out⟩
          refine hK.out _ _ (fun _ => HTc.out) ?_
          clear hK K HTc
          refine oneT (i := 8) rfl (by kernel_rfl) (by rfl) (fun K hK => ?_)
          obtain ⟨A8, c8, W4, hrun, ho, hg, _⟩ := kps_app W3 U.heap.size _ (p.kps.take j) R29.out (W1.heap.size + 1) (some ⟨W1.heap.size, 0, none⟩) 1 1 [x] (rdK_whole R31.out) (by have := HJ.out; have := HLk.out; simp; omega) HU.out.size
          rw [HLk.out] at hrun ho
          have b_ : Below U.heap.size W3 W4 := below_row R29.out hg HU.out.size
          have HRun := Lib.hid hrun
          refine wp_appendH (by rfl) (by rfl) HRun.out ?_
          simp only [Act.put, List.setIfInBounds_toArray, List.set_cons_zero, List.set_cons_succ]
          clear hrun hg HRun
          have HU_ := Lib.hid (HU.out.trans b_)
          clear HU
          have HU := HU_
          clear HU_ b_
          clear R29
          clear R31
          have R32 := Lib.hid ho
          clear ho
          have HTc : Hid ((fun V' => Whole V' w.heap.size 30 (brC p a) ∧ Whole V' (w.heap.size + 1) 32 #[.int .i64 x.id, .int .i64 x.tok, .int .i64 x.ver, .int .i64 x.zone, .int .u8 x.phase, .int .i64 x.since, .bool x.guard, .bool x.done]) W4) := Lib.hid ⟨Y0.out.under HU.out, Y1.out.under HU.out⟩
          refine hK.out _ _ (fun _ => HTc.out) ?_
          clear hK K HTc
          refine oneT (i := 13) rfl (by kernel_rfl) (by rfl) (fun K hK => ?_)
          obtain ⟨A13, c13, W5, hrun, ho, hg, _⟩ := kps_app W4 U.heap.size _ (p.kps.take j ++ [x]) R32.out U.heap.size A' (p.kps.length - j) (a.d - j) (p.kps.drop j) (HD.out.below HU.out) (by have := HJ.out; have := HLk.out; simp; omega) HU.out.size
          rw [HPL.out] at hrun ho
          rw [← HP.out] at ho
          have b_ : Below U.heap.size W4 W5 := below_row R32.out hg HU.out.size
          have HRun := Lib.hid hrun
          refine wp_appendH (by rfl) (by rfl) HRun.out ?_
          simp only [Act.put, List.setIfInBounds_toArray, List.set_cons_zero, List.set_cons_succ]
          clear hrun hg HRun
          have HU_ := Lib.hid (HU.out.trans b_)
          clear HU
          have HU := HU_
          clear HU_ b_
          clear R32
          have R37 := Lib.hid ho
          clear ho
          have HTc : Hid ((fun V' => Whole V' w.heap.size 30 (brC p a) ∧ Whole V' (w.heap.size + 1) 32 #[.int .i64 x.id, .int .i64 x.tok, .int .i64 x.ver, .int .i64 x.zone, .int .u8 x.phase, .int .i64 x.since, .bool x.guard, .bool x.done]) W5) := Lib.hid ⟨Y0.out.under HU.out, Y1.out.under HU.out⟩
          refine hK.out _ _ (fun _ => HTc.out) ?_
          clear hK K HTc
          refine oneT (i := 14) rfl (by kernel_rfl) (by rfl) (fun K hK => ?_)
          go_simp
          have HTc : Hid ((fun V' => Whole V' w.heap.size 30 (brC p a) ∧ Whole V' (w.heap.size + 1) 32 #[.int .i64 x.id, .int .i64 x.tok, .int .i64 x.ver, .int .i64 x.zone, .int .u8 x.phase, .int .i64 x.since, .bool x.guard, .bool x.done]) W5) := Lib.hid ⟨Y0.out.under HU.out, Y1.out.under HU.out⟩
          refine hK.out _ _ (fun _ => HTc.out) ?_
          clear hK K HTc
          have e19 : W5.cell? ⟨w.heap.size, 19, none⟩ = some (.slice a.B p.kps.length a.d) := (Y0.out.under HU.out).cell 19
          have f19 := (Y0.out.under HU.out).frozen 19
          refine oneL (i := 15) (by kernel_rfl) rfl (by kernel_rfl) (by rfl) (fun K hK => ?_)
          go_simp
          refine hK.out _ _ ?_
          clear hK K
          refine doneT (by kernel_rfl) ?_ _
          go_upto_region 5 with fail
          refine wpV (fun X hX => ?_)
          have e0 := set19L (Y0.out.under HU.out) (putK p.kps x) A13 c13
          have k := Only.set W5 w.heap.size 19 (.slice A13 (putK p.kps x).length c13)
          rw [hX] at e0 k
          have Z0 := Lib.hid e0
          have Z2 := Lib.hid (k.far (Y2.out.under HU.out) (by omega))
          have hou := HOU.out.under HU.out
          have hw1 : OwB base X { p with kps := putK p.kps x } ⟨a.C, a.e, a.A, a.c, A13, c13⟩ := ⟨k.own hou.ms (Y0.out.under HU.out) (by decide), hou.its.only k (Y0.out.under HU.out) (by decide), (R37.out.only k (Y0.out.under HU.out) (by decide)).weaker (Nat.le_trans HBb.out HSU.out)⟩
          have hb1 := k.bel (HBU.out.trans (HU.out.mono HSU.out)) HBs.out
          have HW1 := Lib.hid hw1
          have HB1 := Lib.hid hb1
          have HA : Hid ((brC { p with kps := putK p.kps x } ⟨a.C, a.e, a.A, a.c, A13, c13⟩).all (·.oneCell') = true) := Lib.hid (brC_one _ _)
          clear hX e0 k hou hw1 hb1 e19 f19 HL HT0 HH HRe
          go_wp2_with (first | refine wpList_load_row (by rfl) 30 _ rfl w.heap.size (by rfl) 30 _ (0, 0) _ Z0.out Tryd.underlying30 rfl (by kernel_rfl) ?_ | refine wpList_store_row (by rfl) 30 _ _ rfl (w.heap.size + 1 + 1) (brC { p with kps := putK p.kps x } ⟨a.C, a.e, a.A, a.c, A13, c13⟩) (by rfl) (by rfl) 30 _ Z2.out (by kernel_rfl) rfl HA.out ?_)
          exact brain_end (k := 4) rfl (by rfl) (setRow_heap _ _ _ _ _ _ Z2.out) rfl ⟨⟨a.C, a.e, a.A, a.c, A13, c13⟩, rfl, HW1.out.rowset Z2.out (by decide) (by decide) (by decide) _, Stp.of_below (below_rowsetB HB1.out (by have := HBs.out; omega) _) HBb.out⟩
      · obtain ⟨W1, hW⟩ : ∃ W, U.drew.alloc (.cells #[.int .i64 x.id, .int .i64 x.tok, .int .i64 x.ver, .int .i64 x.zone, .int .u8 x.phase, .int .i64 x.since, .bool x.guard, .bool x.done] 32) = W := ⟨_, rfl⟩
        have b_ : Below U.drew.heap.size U.drew W1 := by rw [← hW]; exact (Below.refl _ _).alloc (Nat.le_refl _) _
        have r_ : Whole W1 U.drew.heap.size 32 #[.int .i64 x.id, .int .i64 x.tok, .int .i64 x.ver, .int .i64 x.zone, .int .u8 x.phase, .int .i64 x.since, .bool x.guard, .bool x.done] := by rw [← hW]; exact Whole.new _ _ _
        have HNE := Lib.hid (show W1.heap.size = U.drew.heap.size + 1 by rw [← hW, World.size_alloc])
        go_simp
        clear hW
        have HU_ := Lib.hid (HU.out.trans (b_.mono HU.out.size))
        clear HU
        have HU := HU_
        clear HU_
        have R31 := Lib.hid r_
        clear r_ b_
        have HTc : Hid ((fun V' => Whole V' w.heap.size 30 (brC p a) ∧ Whole V' (w.heap.size + 1) 32 #[.int .i64 x.id, .int .i64 x.tok, .int .i64 x.ver, .int .i64 x.zone, .int .u8 x.phase, .int .i64 x.since, .bool x.guard, .bool x.done]) W1) := Lib.hid ⟨Y0.out.under HU.out, Y1.out.under HU.out⟩
        refine hK.out _ _ (fun _ => HTc.out) ?_
        clear hK K HTc
        refine oneT (i := 0) rfl (by kernel_rfl) (by rfl) (fun K hK => ?_)
        obtain ⟨W2, hW⟩ : ∃ W, W1.alloc (.cells #[] 32) = W := ⟨_, rfl⟩
        have b_ : Below W1.heap.size W1 W2 := by rw [← hW]; exact (Below.refl _ _).alloc (Nat.le_refl _) _
        have r_ : KpsAt U.heap.size W2 (.slice (some ⟨W1.heap.size, 0, none⟩) 0 0) [] := by rw [← hW]; exact World.ownsRow_made (base := U.heap.size) (e := 32) (size := 8) W1 #[] 0 HU.out.size (Nat.zero_le _) rfl
        go_simp
        clear hW
        have R31_ := Lib.hid (R31.out.under b_)
        clear R31
        have R31 := R31_
        clear R31_
        have HU_ := Lib.hid (HU.out.trans (b_.mono HU.out.size))
        clear HU
        have HU := HU_
        clear HU_
        have R24 := Lib.hid r_
        clear r_ b_
        have HTc : Hid ((fun V' => Whole V' w.heap.size 30 (brC p a) ∧ Whole V' (w.heap.size + 1) 32 #[.int .i64 x.id, .int .i64 x.tok, .int .i64 x.ver, .int .i64 x.zone, .int .u8 x.phase, .int .i64 x.since, .bool x.guard, .bool x.done]) W2) := Lib.hid ⟨Y0.out.under HU.out, Y1.out.under HU.out⟩
        refine hK.out _ _ (fun _ => HTc.out) ?_
        clear hK K HTc
        refine oneT (i := 5) rfl (by kernel_rfl) (by rfl) (fun K hK => ?_)
        obtain ⟨A5, c5, W3, hrun, ho, hg, _⟩ := kps_app W2 U.heap.size _ [] R24.out U.heap.size a.B j a.d (p.kps.take j) (HTk.out.below HU.out) (by have := HJ.out; have := HLk.out; simp; omega) HU.out.size
        simp only [List.length_nil, Nat.zero_add, List.nil_append] at hrun ho
        have b_ : Below U.heap.size W2 W3 := below_row R24.out hg HU.out.size
        have l_ := R31.out.grown hg (by simp only [Value.ownBlock]; intro e; injection e with e; have := HNE.out; omega)
        have HRun := Lib.hid hrun
        refine wp_appendH (by rfl) (by rfl) HRun.out ?_
        simp only [Act.put, List.setIfInBounds_toArray, List.set_cons_zero, List.set_cons_succ]
        clear hrun hg HRun
        have HU_ := Lib.hid (HU.out.trans b_)
        clear HU
        have HU := HU_
        clear HU_ b_
        clear R31
        have R31 := Lib.hid l_
        clear l_
        clear R24
        have R29 := Lib.hid ho
        clear ho
        have HTc : Hid ((fun V' => Whole V' w.heap.size 30 (brC p a) ∧ Whole V' (w.heap.size + 1) 32 #[.int .i64 x.id, .int .i64 x.tok, .int .i64 x.ver, .int .i64 x.zone, .int .u8 x.phase, .int .i64 x.since, .bool x.guard, .bool x.done]) W3) := Lib.hid ⟨Y0.out.under HU.out, Y1.out.under HU.out⟩
        refine hK.out _ _ (fun _ => HTc.out) ?_
        clear hK K HTc
        refine oneT (i := 8) rfl (by kernel_rfl) (by rfl) (fun K hK => ?_)
        obtain ⟨A8, c8, W4, hrun, ho, hg, _⟩ := kps_app W3 U.heap.size _ (p.kps.take j) R29.out (U.drew.heap.size + 1) (some ⟨U.drew.heap.size, 0, none⟩) 1 1 [x] (rdK_whole R31.out) (by have := HJ.out; have := HLk.out; simp; omega) HU.out.size
        rw [HLk.out] at hrun ho
        have b_ : Below U.heap.size W3 W4 := below_row R29.out hg HU.out.size
        have HRun := Lib.hid hrun
        refine wp_appendH (by rfl) (by rfl) HRun.out ?_
        simp only [Act.put, List.setIfInBounds_toArray, List.set_cons_zero, List.set_cons_succ]
        clear hrun hg HRun
        have HU_ := Lib.hid (HU.out.trans b_)
        clear HU
        have HU := HU_
        clear HU_ b_
        clear R29
        clear R31
        have R32 := Lib.hid ho
        clear ho
        have HTc : Hid ((fun V' => Whole V' w.heap.size 30 (brC p a) ∧ Whole V' (w.heap.size + 1) 32 #[.int .i64 x.id, .int .i64 x.tok, .int .i64 x.ver, .int .i64 x.zone, .int .u8 x.phase, .int .i64 x.since, .bool x.guard, .bool x.done]) W4) := Lib.hid ⟨Y0.out.under HU.out, Y1.out.under HU.out⟩
        refine hK.out _ _ (fun _ => HTc.out) ?_
        clear hK K HTc
        refine oneT (i := 13) rfl (by kernel_rfl) (by rfl) (fun K hK => ?_)
        obtain ⟨A13, c13, W5, hrun, ho, hg, _⟩ := kps_app W4 U.heap.size _ (p.kps.take j ++ [x]) R32.out U.heap.size A' (p.kps.length - j) (a.d - j) (p.kps.drop j) (HD.out.below HU.out) (by have := HJ.out; have := HLk.out; simp; omega) HU.out.size
        rw [HPL.out] at hrun ho
        rw [← HP.out] at ho
        have b_ : Below U.heap.size W4 W5 := below_row R32.out hg HU.out.size
        have HRun := Lib.hid hrun
        refine wp_appendH (by rfl) (by rfl) HRun.out ?_
        simp only [Act.put, List.setIfInBounds_toArray, List.set_cons_zero, List.set_cons_succ]
        clear hrun hg HRun
        have HU_ := Lib.hid (HU.out.trans b_)
        clear HU
        have HU := HU_
        clear HU_ b_
        clear R32
        have R37 := Lib.hid ho
        clear ho
        have HTc : Hid ((fun V' => Whole V' w.heap.size 30 (brC p a) ∧ Whole V' (w.heap.size + 1) 32 #[.int .i64 x.id, .int .i64 x.tok, .int .i64 x.ver, .int .i64 x.zone, .int .u8 x.phase, .int .i64 x.since, .bool x.guard, .bool x.done]) W5) := Lib.hid ⟨Y0.out.under HU.out, Y1.out.under HU.out⟩
        refine hK.out _ _ (fun _ => HTc.out) ?_
        clear hK K HTc
        refine oneT (i := 14) rfl (by kernel_rfl) (by rfl) (fun K hK => ?_)
        go_simp
        have HTc : Hid ((fun V' => Whole V' w.heap.size 30 (brC p a) ∧ Whole V' (w.heap.size + 1) 32 #[.int .i64 x.id, .int .i64 x.tok, .int .i64 x.ver, .int .i64 x.zone, .int .u8 x.phase, .int .i64 x.since, .bool x.guard, .bool x.done]) W5) := Lib.hid ⟨Y0.out.under HU.out, Y1.out.under HU.out⟩
        refine hK.out _ _ (fun _ => HTc.out) ?_
        clear hK K HTc
        have e19 : W5.cell? ⟨w.heap.size, 19, none⟩ = some (.slice a.B p.kps.length a.d) := (Y0.out.under HU.out).cell 19
        have f19 := (Y0.out.under HU.out).frozen 19
        refine oneL (i := 15) (by kernel_rfl) rfl (by kernel_rfl) (by rfl) (fun K hK => ?_)
        go_simp
        refine hK.out _ _ ?_
        clear hK K
        refine doneT (by kernel_rfl) ?_ _
        go_upto_region 5 with fail
        refine wpV (fun X hX => ?_)
        have e0 := set19L (Y0.out.under HU.out) (putK p.kps x) A13 c13
        have k := Only.set W5 w.heap.size 19 (.slice A13 (putK p.kps x).length c13)
        rw [hX] at e0 k
        have Z0 := Lib.hid e0
        have Z2 := Lib.hid (k.far (Y2.out.under HU.out) (by omega))
        have hou := HOU.out.under HU.out
        have hw1 : OwB base X { p with kps := putK p.kps x } ⟨a.C, a.e, a.A, a.c, A13, c13⟩ := ⟨k.own hou.ms (Y0.out.under HU.out) (by decide), hou.its.only k (Y0.out.under HU.out) (by decide), (R37.out.only k (Y0.out.under HU.out) (by decide)).weaker (Nat.le_trans HBb.out HSU.out)⟩
        have hb1 := k.bel (HBU.out.trans (HU.out.mono HSU.out)) HBs.out
        have HW1 := Lib.hid hw1
        have HB1 := Lib.hid hb1
        have HA : Hid ((brC { p with kps := putK p.kps x } ⟨a.C, a.e, a.A, a.c, A13, c13⟩).all (·.oneCell') = true) := Lib.hid (brC_one _ _)
        clear hX e0 k hou hw1 hb1 e19 f19 HL HT0 HH HRe
        go_wp2_with (first | refine wpList_load_row (by rfl) 30 _ rfl w.heap.size (by rfl) 30 _ (0, 0) _ Z0.out Tryd.underlying30 rfl (by kernel_rfl) ?_ | refine wpList_store_row (by rfl) 30 _ _ rfl (w.heap.size + 1 + 1) (brC { p with kps := putK p.kps x } ⟨a.C, a.e, a.A, a.c, A13, c13⟩) (by rfl) (by rfl) 30 _ Z2.out (by kernel_rfl) rfl HA.out ?_)
        exact brain_end (k := 4) rfl (by rfl) (setRow_heap _ _ _ _ _ _ Z2.out) rfl ⟨⟨a.C, a.e, a.A, a.c, A13, c13⟩, rfl, HW1.out.rowset Z2.out (by decide) (by decide) (by decide) _, Stp.of_below (below_rowsetB HB1.out (by have := HBs.out; omega) _) HBb.out⟩

end Go.Proofs.YtplejbgecihnpaaDoor
