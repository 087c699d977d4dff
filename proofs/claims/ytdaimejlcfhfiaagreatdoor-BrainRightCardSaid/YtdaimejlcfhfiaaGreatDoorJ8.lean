/-
  Texts that the walks of the statements over logs lean on, joined (BrKeep, BrKeepP, BrMade). Conditions: those that each theorem names.
-/
import Derived.Test.YtdaimejlcfhfiaaGreatDoorJ0
import Derived.Test.YtdaimejlcfhfiaaGreatDoorJ4
import Derived.Test.YtdaimejlcfhfiaaGreatDoorJ7

/-
  The walk of the document's own 'keep': an instance at its place. Conditions: those that each theorem names.
-/
namespace Go.Proofs.YtdaimejlcfhfiaaGreatDoor
open Go.RowKit Go.Shelf

theorem putK_at {l : List Kp} {x : Kp} {j : Nat} (h1 : ∀ y ∈ l.take j, y.id ≤ x.id) (h2 : ∀ y, l[j]? = some y → ¬ y.id ≤ x.id) : putK l x = l.take j ++ [x] ++ l.drop j := by
  induction l generalizing j with
  | nil => simp [putK]
  | cons a l ih =>
    cases j with
    | zero =>
      have ha := h2 a rfl
      simp [putK, ha]
    | succ j =>
      have ha := h1 a (by simp)
      have e : putK (a :: l) x = a :: putK l x := by simp [putK, ha]
      rw [e, ih (j := j) (fun y hy => h1 y (by simp only [List.take_succ_cons, List.mem_cons]; exact .inr hy)) (fun y hy => h2 y (by simpa using hy))]
      simp
theorem own_capF {w : World} {base size n c : Nat} {e : TypeId} {A : Option Addr} {xs : List Value} (h : w.ownsRow base e size (.slice A n c) n xs) : n ≤ c := by
  rcases h.2 with ⟨h1, h2⟩ | ⟨g, cap, cur, h1, _, _, h2, _⟩
  · omega
  · injection h1 with _ _ h3
    omega
theorem set19L {w : World} {g : Nat} {p : Br} {a : Ad} (h : Whole w g 30 (brC p a)) (l : List Kp) (B : Option Addr) (d : Nat) : Whole (w.setCell ⟨g, 19, none⟩ (.slice B l.length d)) g 30 (brC { p with kps := l } ⟨a.C, a.e, a.A, a.c, B, d⟩) := by
  have h1 := h.set 19 (.slice B l.length d)
  simp only [List.setIfInBounds_toArray, List.set_cons_zero, List.set_cons_succ] at h1
  exact h1
theorem rdK_whole {W : World} {b : Nat} {x : Kp} (h : Whole W b 47 #[.int .i64 x.id, .int .i64 x.tok, .int .i64 x.ver, .int .i64 x.zone, .int .u8 x.phase, .int .i64 x.since, .bool x.guard, .bool x.done]) : RdK W (b + 1) (some ⟨b, 0, none⟩) 1 [x] := by
  refine ⟨rfl, fun _ => ⟨b, 0, rfl, by omega, ?_⟩⟩
  rintro (_ | j) y hy i hi
  · simp only [List.getElem?_cons_zero, Option.some.injEq] at hy
    subst hy
    simp only [Nat.zero_mul, Nat.zero_add]
    rcases (by omega : i = 0 ∨ i = 1 ∨ i = 2 ∨ i = 3 ∨ i = 4 ∨ i = 5 ∨ i = 6 ∨ i = 7) with rfl | rfl | rfl | rfl | rfl | rfl | rfl | rfl
    · exact h.cell 0
    · exact h.cell 1
    · exact h.cell 2
    · exact h.cell 3
    · exact h.cell 4
    · exact h.cell 5
    · exact h.cell 6
    · exact h.cell 7
  · simp at hy

set_option maxRecDepth 100000 in
set_option maxHeartbeats 4000000 in
theorem rkeepB_any (p : Br) (a : Ad) (x : Kp) (base : Nat) (w : World) (hw : OwB base w p a) (hbase : base ≤ w.heap.size) (hk : p.kps.length ≤ 1000) :
    Calls Tryz.prog 53 #[brV p a, .agg #[.int .i64 x.id, .int .i64 x.tok, .int .i64 x.ver, .int .i64 x.zone, .int .u8 x.phase, .int .i64 x.since, .bool x.guard, .bool x.done]] w (BrPost base { p with kps := putK p.kps x } w) := by
  obtain ⟨hb, w0, w1, w2⟩ := three_new w 30 47 30 (brC p a) #[.int .i64 x.id, .int .i64 x.tok, .int .i64 x.ver, .int .i64 x.zone, .int .u8 x.phase, .int .i64 x.since, .bool x.guard, .bool x.done] (brC br0 ad0)
  obtain ⟨V, hV⟩ : ∃ V, ((w.alloc (.cells (brC p a) 30)).alloc (.cells #[.int .i64 x.id, .int .i64 x.tok, .int .i64 x.ver, .int .i64 x.zone, .int .u8 x.phase, .int .i64 x.since, .bool x.guard, .bool x.done] 47)).alloc (.cells (brC br0 ad0) 30) = V := ⟨_, rfl⟩
  rw [hV] at hb w0 w1 w2
  have HO := Lib.hid (hw.under hb)
  have HCd := Lib.hid (show p.kps.length ≤ a.d from own_capF hw.kps)
  have HB := Lib.hid (hb.mono hbase)
  have HSz := Lib.hid (show base ≤ V.heap.size from Nat.le_trans hbase hb.size)
  have HBs := Lib.hid hbase
  have X0 := Lib.hid w0
  have X1 := Lib.hid w1
  have X2 := Lib.hid w2
  have HV := Lib.hid hV
  have c19 : V.cell? ⟨w.heap.size, 19, none⟩ = some (.slice a.B p.kps.length a.d) := w0.cell 19
  have z0 : V.cell? ⟨w.heap.size + 1, 0, none⟩ = some (.int .i64 x.id) := w1.cell 0
  clear hb w0 w1 w2 hw hbase hV
  go_enter Tryz.func53, Tryz.ntmps53
  go_upto_region 1 with fail
  refine wpV (fun V2 hV2 => ?_)
  obtain rfl : V = V2 := HV.out.symm.trans hV2
  clear HV hV2
  go_wp2_with fail
  go_loopw [5] (fun i wr => ∃ j : Nat, i = .int .i64 (j : Int) ∧ j ≤ p.kps.length ∧ (∀ y ∈ p.kps.take j, y.id ≤ x.id) ∧ ∃ k, wr = V.drewN k) (fun i _ => p.kps.length - (intOf i).toNat)
  case atStart => exact ⟨0, rfl, Nat.zero_le _, by simp, 0, rfl⟩
  case round =>
    obtain ⟨j, rfl, hj, hT, kk, rfl⟩ := hrel
    have HT := Lib.hid hT
    clear hT
    by_cases hlt : j < p.kps.length
    · obtain ⟨b1, off1, h1, _, hc⟩ := RdK.at_ (HO.out.kps.read) (by omega)
      obtain ⟨y, hy⟩ : ∃ y, p.kps[j]? = some y := ⟨_, List.getElem?_eq_getElem hlt⟩
      obtain ⟨g0, g1, g2, g3, g4, g5, g6, g7⟩ := hc j y hy
      have hI : (j : Int) < (p.kps.length : Int) := by omega
      have HY := Lib.hid hy
      rw [h1] at c19
      clear hc hy
      by_cases hyx : y.id ≤ x.id
      · have q0 : decide (y.id ≤ x.id) = true := decide_eq_true hyx
        have HN : Hid (∀ y ∈ p.kps.take (j + 1), y.id ≤ x.id) := Lib.hid (fun z hz => by
          rw [List.take_succ_eq_append_getElem (List.getElem?_eq_some_iff.1 HY.out).1, (List.getElem?_eq_some_iff.1 HY.out).2, List.mem_append, List.mem_singleton] at hz
          rcases hz with hz | rfl
          · exact HT.out z hz
          · exact hyx)
        clear hyx
        go_wp2_with fail
        go_quiet (fail)
        go_wp2_with fail
        go_roundw
        case rel => exact ⟨j + 1, by go_num, by omega, HN.out, _, rfl⟩
        case measure => simp [intOf]; omega
      · have q0 : decide (y.id ≤ x.id) = false := decide_eq_false hyx
        have HP := Lib.hid (putK_at HT.out (fun z hz => by rw [HY.out] at hz; injection hz with hz; rw [← hz]; exact hyx))
        clear hyx
        go_wp2_with fail
        go_quiet (fail)
        clear g0 g1 g2 g3 g4 g5 g6 g7 q0 hI hlt
        rw [← h1] at c19
        clear h1
        go_upto_region 4 with fail
        clear c19 z0
        refine wpV (fun U hU => ?_)
        have bU : Below V.heap.size V U := by rw [← hU]; first | exact below_drewB (below_drewB (Below.refl _ V) _) _ | exact below_drewB (Below.refl _ V) _
        have Y0 := Lib.hid (X0.out.under bU)
        have Y1 := Lib.hid (X1.out.under bU)
        have Y2 := Lib.hid (X2.out.under bU)
        have HOU := Lib.hid (HO.out.under bU)
        have HBU := Lib.hid (HB.out.trans (bU.mono HSz.out))
        have HSU := Lib.hid (Nat.le_trans HSz.out bU.size)
        clear hU bU X0 X1 X2 HO HB HSz
        have HR := Lib.hid (show RdK U U.heap.size a.B p.kps.length p.kps from HOU.out.kps.read)
        have hhead := fun W => run_headF Tryz.underlying26 rfl info_kp a.B p.kps.length a.d j (by have := HCd.out; omega) W
        obtain ⟨A', hrest, hA'⟩ := run_restF Tryz.underlying26 rfl info_kp a.B p.kps.length a.d j hj
        have HH := Lib.hid hhead
        have HRe := Lib.hid hrest
        have HD := Lib.hid (show RdK U U.heap.size A' (p.kps.length - j) (p.kps.drop j) from HR.out.drop hj (fun h b off e => hA' ⟨h, HCd.out⟩ b off e))
        have HTk := Lib.hid (show RdK U U.heap.size a.B j (p.kps.take j) from HR.out.take hj)
        clear hhead hrest hA'
        have HLk := Lib.hid (show (p.kps.take j).length = j by rw [List.length_take]; omega)
        have HJ := Lib.hid hj
        have HPL := Lib.hid (show (p.kps.take j ++ [x]).length + (p.kps.length - j) = (putK p.kps x).length by rw [HP.out]; simp only [List.length_append, List.length_take, List.length_drop, List.length_singleton])
        have HT0 : Hid ((fun V' => Whole V' w.heap.size 30 (brC p a) ∧ Whole V' (w.heap.size + 1) 47 #[.int .i64 x.id, .int .i64 x.tok, .int .i64 x.ver, .int .i64 x.zone, .int .u8 x.phase, .int .i64 x.since, .bool x.guard, .bool x.done]) U.drew) := Lib.hid ⟨Y0.out, Y1.out⟩
        have HL : Hid (∀ V', (fun V' => Whole V' w.heap.size 30 (brC p a) ∧ Whole V' (w.heap.size + 1) 47 #[.int .i64 x.id, .int .i64 x.tok, .int .i64 x.ver, .int .i64 x.zone, .int .u8 x.phase, .int .i64 x.since, .bool x.guard, .bool x.done]) V' → V'.cell? ⟨w.heap.size, 19, none⟩ = some (.slice a.B p.kps.length a.d) ∧ V'.cell? ⟨w.heap.size + 1, 0, none⟩ = some (.int .i64 x.id) ∧ V'.cell? ⟨w.heap.size + 1, 1, none⟩ = some (.int .i64 x.tok) ∧ V'.cell? ⟨w.heap.size + 1, 2, none⟩ = some (.int .i64 x.ver) ∧ V'.cell? ⟨w.heap.size + 1, 3, none⟩ = some (.int .i64 x.zone) ∧ V'.cell? ⟨w.heap.size + 1, 4, none⟩ = some (.int .u8 x.phase) ∧ V'.cell? ⟨w.heap.size + 1, 5, none⟩ = some (.int .i64 x.since) ∧ V'.cell? ⟨w.heap.size + 1, 6, none⟩ = some (.bool x.guard) ∧ V'.cell? ⟨w.heap.size + 1, 7, none⟩ = some (.bool x.done)) := Lib.hid (fun V' h => ⟨h.1.cell 19, h.2.cell 0, h.2.cell 1, h.2.cell 2, h.2.cell 3, h.2.cell 4, h.2.cell 5, h.2.cell 6, h.2.cell 7⟩)
        have HU := Lib.hid (show Below U.heap.size U U.drew from below_drewB (Below.refl _ U) 1)
        refine wp_region_T (ls := [15]) (T := (fun V' => Whole V' w.heap.size 30 (brC p a) ∧ Whole V' (w.heap.size + 1) 47 #[.int .i64 x.id, .int .i64 x.tok, .int .i64 x.ver, .int .i64 x.zone, .int .u8 x.phase, .int .i64 x.since, .bool x.guard, .bool x.done])) (by kernel_rfl) ?_
        refine takeP (i := 1) (v := ?_) rfl (by kernel_rfl) (by kernel_rfl) (by kernel_rfl) (by kernel_rfl) (fun _ _ _ h => h) (by rfl) ?_ (fun _ => HT0.out) ?_
        rotate_left
        · intro V'; go_simp <;> with_reducible rfl
        simp only [Act.put, List.setIfInBounds_toArray, List.set_cons_zero, List.set_cons_succ]
        refine takeT (i := 2) (v := ?_) rfl (by kernel_rfl) (by kernel_rfl) (by kernel_rfl) (by kernel_rfl) (fun _ _ _ h => h) (by rfl) ?_ HT0.out ?_
        rotate_left
        · intro V' hV; obtain ⟨y19, y0, y1, y2, y3, y4, y5, y6, y7⟩ := HL.out V' hV; go_simp <;> with_reducible rfl
        simp only [Act.put, List.setIfInBounds_toArray, List.set_cons_zero, List.set_cons_succ]
        refine takeP (i := 3) (v := ?_) rfl (by kernel_rfl) (by kernel_rfl) (by kernel_rfl) (by kernel_rfl) (fun _ _ _ h => h) (by rfl) ?_ (fun _ => HT0.out) ?_
        rotate_left
        · intro V'; go_simp <;> with_reducible rfl
        simp only [Act.put, List.setIfInBounds_toArray, List.set_cons_zero, List.set_cons_succ]
        refine takeP (i := 4) (v := .slice a.B j a.d) rfl (by kernel_rfl) (by kernel_rfl) (by kernel_rfl) (by kernel_rfl) (fun _ _ _ h => h) (by rfl) ?_ (fun _ => HT0.out) ?_
        · intro V'; have hs := HH.out V'; go_simp <;> with_reducible rfl
        simp only [Act.put, List.setIfInBounds_toArray, List.set_cons_zero, List.set_cons_succ]
        refine takeT (i := 6) (v := ?_) rfl (by kernel_rfl) (by kernel_rfl) (by kernel_rfl) (by kernel_rfl) (fun _ _ _ h => h) (by rfl) ?_ HT0.out ?_
        rotate_left
        · intro V' hV; obtain ⟨y19, y0, y1, y2, y3, y4, y5, y6, y7⟩ := HL.out V' hV; go_simp <;> with_reducible rfl
        simp only [Act.put, List.setIfInBounds_toArray, List.set_cons_zero, List.set_cons_succ]
        refine takeP (i := 9) (v := ?_) rfl (by kernel_rfl) (by kernel_rfl) (by kernel_rfl) (by kernel_rfl) (fun _ _ _ h => h) (by rfl) ?_ (fun _ => HT0.out) ?_
        rotate_left
        · intro V'; go_simp <;> with_reducible rfl
        simp only [Act.put, List.setIfInBounds_toArray, List.set_cons_zero, List.set_cons_succ]
        refine takeT (i := 10) (v := ?_) rfl (by kernel_rfl) (by kernel_rfl) (by kernel_rfl) (by kernel_rfl) (fun _ _ _ h => h) (by rfl) ?_ HT0.out ?_
        rotate_left
        · intro V' hV; obtain ⟨y19, y0, y1, y2, y3, y4, y5, y6, y7⟩ := HL.out V' hV; go_simp <;> with_reducible rfl
        simp only [Act.put, List.setIfInBounds_toArray, List.set_cons_zero, List.set_cons_succ]
        refine takeP (i := 11) (v := ?_) rfl (by kernel_rfl) (by kernel_rfl) (by kernel_rfl) (by kernel_rfl) (fun _ _ _ h => h) (by rfl) ?_ (fun _ => HT0.out) ?_
        rotate_left
        · intro V'; go_simp <;> with_reducible rfl
        simp only [Act.put, List.setIfInBounds_toArray, List.set_cons_zero, List.set_cons_succ]
        refine takeP (i := 12) (v := .slice A' (p.kps.length - j) (a.d - j)) rfl (by kernel_rfl) (by kernel_rfl) (by kernel_rfl) (by kernel_rfl) (fun _ _ _ h => h) (by rfl) ?_ (fun _ => HT0.out) ?_
        · intro V'; have hs := HRe.out V'; go_simp <;> with_reducible rfl
        simp only [Act.put, List.setIfInBounds_toArray, List.set_cons_zero, List.set_cons_succ]
        refine twoT (i := 0) (j := 7) rfl rfl (by kernel_rfl) (by rfl) (by rfl) (fun K hK => ?_) (fun K hK => ?_)
        · obtain ⟨W1, hW⟩ : ∃ W, U.drew.alloc (.cells #[] 47) = W := ⟨_, rfl⟩
          have b_ : Below U.drew.heap.size U.drew W1 := by rw [← hW]; exact (Below.refl _ _).alloc (Nat.le_refl _) _
          have r_ : KpsAt U.heap.size W1 (.slice (some ⟨U.drew.heap.size, 0, none⟩) 0 0) [] := by rw [← hW]; exact World.ownsRow_made (base := U.heap.size) (e := 47) (size := 8) U.drew #[] 0 HU.out.size (Nat.zero_le _) rfl
          have HNE := Lib.hid (show W1.heap.size = U.drew.heap.size + 1 by rw [← hW, World.size_alloc])
          go_simp
          clear hW
          have HU_ := Lib.hid (HU.out.trans (b_.mono HU.out.size))
          clear HU
          have HU := HU_
          clear HU_
          have R24 := Lib.hid r_
          clear r_ b_
          have HTc : Hid ((fun V' => Whole V' w.heap.size 30 (brC p a) ∧ Whole V' (w.heap.size + 1) 47 #[.int .i64 x.id, .int .i64 x.tok, .int .i64 x.ver, .int .i64 x.zone, .int .u8 x.phase, .int .i64 x.since, .bool x.guard, .bool x.done]) W1) := Lib.hid ⟨Y0.out.under HU.out, Y1.out.under HU.out⟩
          refine hK.out _ _ (fun _ => HTc.out) ?_
          clear hK K HTc
          refine twoT (i := 5) (j := 7) rfl rfl (by kernel_rfl) (by rfl) (by rfl) (fun K hK => ?_) (fun K hK => ?_)
          · obtain ⟨A5, c5, W2, hrun, ho, hg, _⟩ := kps_app W1 U.heap.size _ [] R24.out U.heap.size a.B j a.d (p.kps.take j) (HTk.out.below HU.out) (by have := HJ.out; have := HLk.out; simp; omega) HU.out.size
            simp only [List.length_nil, Nat.zero_add, List.nil_append] at hrun ho
            have b_ : Below U.heap.size W1 W2 := below_row R24.out hg HU.out.size
            have HRun := Lib.hid hrun
            refine wp_appendH (by rfl) (by rfl) HRun.out ?_
            simp only [Act.put, List.setIfInBounds_toArray, List.set_cons_zero, List.set_cons_succ]
            clear hrun hg HRun
            have HU_ := Lib.hid (HU.out.trans b_)
            clear HU
            have HU := HU_
            clear HU_ b_
            clear R24
            have R29 := Lib.hid ho
            clear ho
            have HTc : Hid ((fun V' => Whole V' w.heap.size 30 (brC p a) ∧ Whole V' (w.heap.size + 1) 47 #[.int .i64 x.id, .int .i64 x.tok, .int .i64 x.ver, .int .i64 x.zone, .int .u8 x.phase, .int .i64 x.since, .bool x.guard, .bool x.done]) W2) := Lib.hid ⟨Y0.out.under HU.out, Y1.out.under HU.out⟩
            refine hK.out _ _ (fun _ => HTc.out) ?_
            clear hK K HTc
            refine oneT (i := 7) rfl (by kernel_rfl) (by rfl) (fun K hK => ?_)
            obtain ⟨W3, hW⟩ : ∃ W, W2.alloc (.cells #[.int .i64 x.id, .int .i64 x.tok, .int .i64 x.ver, .int .i64 x.zone, .int .u8 x.phase, .int .i64 x.since, .bool x.guard, .bool x.done] 47) = W := ⟨_, rfl⟩
            have b_ : Below W2.heap.size W2 W3 := by rw [← hW]; exact (Below.refl _ _).alloc (Nat.le_refl _) _
            have r_ : Whole W3 W2.heap.size 47 #[.int .i64 x.id, .int .i64 x.tok, .int .i64 x.ver, .int .i64 x.zone, .int .u8 x.phase, .int .i64 x.since, .bool x.guard, .bool x.done] := by rw [← hW]; exact Whole.new _ _ _
            go_simp
            clear hW
            have R29_ := Lib.hid (R29.out.under b_)
            clear R29
            have R29 := R29_
            clear R29_
            have HU_ := Lib.hid (HU.out.trans (b_.mono HU.out.size))
            clear HU
            have HU := HU_
            clear HU_
            have R31 := Lib.hid r_
            clear r_ b_
            have HTc : Hid ((fun V' => Whole V' w.heap.size 30 (brC p a) ∧ Whole V' (w.heap.size + 1) 47 #[.int .i64 x.id, .int .i64 x.tok, .int .i64 x.ver, .int .i64 x.zone, .int .u8 x.phase, .int .i64 x.since, .bool x.guard, .bool x.done]) W3) := Lib.hid ⟨Y0.out.under HU.out, Y1.out.under HU.out⟩
            refine hK.out _ _ (fun _ => HTc.out) ?_
            clear hK K HTc
            refine oneT (i := 8) rfl (by kernel_rfl) (by rfl) (fun K hK => ?_)
            obtain ⟨A8, c8, W4, hrun, ho, hg, _⟩ := kps_app W3 U.heap.size _ (p.kps.take j) R29.out (W2.heap.size + 1) (some ⟨W2.heap.size, 0, none⟩) 1 1 [x] (rdK_whole R31.out) (by have := HJ.out; have := HLk.out; simp; omega) HU.out.size
            rw [HLk.out] at hrun ho
            have b_ : Below U.heap.size W3 W4 := below_row R29.out hg HU.out.size
            have HRun := Lib.hid hrun
            refine wp_appendH (by rfl) (by rfl) HRun.out ?_
            simp only [Act.put, List.setIfInBounds_toArray, List.set_cons_zero, List.set_cons_succ]
            clear hrun hg HRun
            have HU_ := Lib.hid (HU.out.trans b_)
            clear HU
            have HU := HU_
            clear HU_ b_
            clear R29
            clear R31
            have R32 := Lib.hid ho
            clear ho
            have HTc : Hid ((fun V' => Whole V' w.heap.size 30 (brC p a) ∧ Whole V' (w.heap.size + 1) 47 #[.int .i64 x.id, .int .i64 x.tok, .int .i64 x.ver, .int .i64 x.zone, .int .u8 x.phase, .int .i64 x.since, .bool x.guard, .bool x.done]) W4) := Lib.hid ⟨Y0.out.under HU.out, Y1.out.under HU.out⟩
            refine hK.out _ _ (fun _ => HTc.out) ?_
            clear hK K HTc
            refine oneT (i := 13) rfl (by kernel_rfl) (by rfl) (fun K hK => ?_)
            obtain ⟨A13, c13, W5, hrun, ho, hg, _⟩ := kps_app W4 U.heap.size _ (p.kps.take j ++ [x]) R32.out U.heap.size A' (p.kps.length - j) (a.d - j) (p.kps.drop j) (HD.out.below HU.out) (by have := HJ.out; have := HLk.out; simp; omega) HU.out.size
            rw [HPL.out] at hrun ho
            rw [← HP.out] at ho
            have b_ : Below U.heap.size W4 W5 := below_row R32.out hg HU.out.size
            have HRun := Lib.hid hrun
            refine wp_appendH (by rfl) (by rfl) HRun.out ?_
            simp only [Act.put, List.setIfInBounds_toArray, List.set_cons_zero, List.set_cons_succ]
            clear hrun hg HRun
            have HU_ := Lib.hid (HU.out.trans b_)
            clear HU
            have HU := HU_
            clear HU_ b_
            clear R32
            have R37 := Lib.hid ho
            clear ho
            have HTc : Hid ((fun V' => Whole V' w.heap.size 30 (brC p a) ∧ Whole V' (w.heap.size + 1) 47 #[.int .i64 x.id, .int .i64 x.tok, .int .i64 x.ver, .int .i64 x.zone, .int .u8 x.phase, .int .i64 x.since, .bool x.guard, .bool x.done]) W5) := Lib.hid ⟨Y0.out.under HU.out, Y1.out.under HU.out⟩
            refine hK.out _ _ (fun _ => HTc.out) ?_
            clear hK K HTc
            refine oneT (i := 14) rfl (by kernel_rfl) (by rfl) (fun K hK => ?_)
            go_simp
            have HTc : Hid ((fun V' => Whole V' w.heap.size 30 (brC p a) ∧ Whole V' (w.heap.size + 1) 47 #[.int .i64 x.id, .int .i64 x.tok, .int .i64 x.ver, .int .i64 x.zone, .int .u8 x.phase, .int .i64 x.since, .bool x.guard, .bool x.done]) W5) := Lib.hid ⟨Y0.out.under HU.out, Y1.out.under HU.out⟩
            refine hK.out _ _ (fun _ => HTc.out) ?_
            clear hK K HTc
            have e19 : W5.cell? ⟨w.heap.size, 19, none⟩ = some (.slice a.B p.kps.length a.d) := (Y0.out.under HU.out).cell 19
            have f19 := (Y0.out.under HU.out).frozen 19
            refine oneL (i := 15) (by kernel_rfl) rfl (by kernel_rfl) (by rfl) (fun K hK => ?_)
            go_simp
            refine hK.out _ _ ?_
            clear hK K
            refine doneT (by kernel_rfl) ?_ _
            go_upto_region 5 with fail
            refine wpV (fun X hX => ?_)
            have e0 := set19L (Y0.out.under HU.out) (putK p.kps x) A13 c13
            have k := Only.set W5 w.heap.size 19 (.slice A13 (putK p.kps x).length c13)
            rw [hX] at e0 k
            have Z0 := Lib.hid e0
            have Z2 := Lib.hid (k.far (Y2.out.under HU.out) (by omega))
            have hou := HOU.out.under HU.out
            have hw1 : OwB base X { p with kps := putK p.kps x } ⟨a.C, a.e, a.A, a.c, A13, c13⟩ := ⟨k.own hou.ms (Y0.out.under HU.out) (by decide), hou.its.only k (Y0.out.under HU.out) (by decide), (R37.out.only k (Y0.out.under HU.out) (by decide)).weaker HSU.out⟩
            have hb1 := k.bel (HBU.out.trans (HU.out.mono HSU.out)) HBs.out
            have HW1 := Lib.hid hw1
            have HB1 := Lib.hid hb1
            have HA : Hid ((brC { p with kps := putK p.kps x } ⟨a.C, a.e, a.A, a.c, A13, c13⟩).all (·.oneCell') = true) := Lib.hid (brC_one _ _)
            clear hX e0 k hou hw1 hb1 e19 f19 HL HT0 HH HRe
            go_wp2_with (first | refine wpList_load_row (by rfl) 30 _ rfl w.heap.size (by rfl) 30 _ (0, 0) _ Z0.out Tryz.underlying30 rfl (by kernel_rfl) ?_ | refine wpList_store_row (by rfl) 30 _ _ rfl (w.heap.size + 1 + 1) (brC { p with kps := putK p.kps x } ⟨a.C, a.e, a.A, a.c, A13, c13⟩) (by rfl) (by rfl) 30 _ Z2.out (by kernel_rfl) rfl HA.out ?_)
            exact brain_end (k := 4) rfl (by rfl) (setRow_heap _ _ _ _ _ _ Z2.out) rfl ⟨⟨a.C, a.e, a.A, a.c, A13, c13⟩, rfl, HW1.out.rowset Z2.out (by decide) (by decide) (by decide) _, below_rowsetB HB1.out (by have := HBs.out; omega) _⟩
          · obtain ⟨W2, hW⟩ : ∃ W, W1.alloc (.cells #[.int .i64 x.id, .int .i64 x.tok, .int .i64 x.ver, .int .i64 x.zone, .int .u8 x.phase, .int .i64 x.since, .bool x.guard, .bool x.done] 47) = W := ⟨_, rfl⟩
            have b_ : Below W1.heap.size W1 W2 := by rw [← hW]; exact (Below.refl _ _).alloc (Nat.le_refl _) _
            have r_ : Whole W2 W1.heap.size 47 #[.int .i64 x.id, .int .i64 x.tok, .int .i64 x.ver, .int .i64 x.zone, .int .u8 x.phase, .int .i64 x.since, .bool x.guard, .bool x.done] := by rw [← hW]; exact Whole.new _ _ _
            go_simp
            clear hW
            have R24_ := Lib.hid (R24.out.under b_)
            clear R24
            have R24 := R24_
            clear R24_
            have HU_ := Lib.hid (HU.out.trans (b_.mono HU.out.size))
            clear HU
            have HU := HU_
            clear HU_
            have R31 := Lib.hid r_
            clear r_ b_
            have HTc : Hid ((fun V' => Whole V' w.heap.size 30 (brC p a) ∧ Whole V' (w.heap.size + 1) 47 #[.int .i64 x.id, .int .i64 x.tok, .int .i64 x.ver, .int .i64 x.zone, .int .u8 x.phase, .int .i64 x.since, .bool x.guard, .bool x.done]) W2) := Lib.hid ⟨Y0.out.under HU.out, Y1.out.under HU.out⟩
            refine hK.out _ _ (fun _ => HTc.out) ?_
            clear hK K HTc
            refine oneT (i := 5) rfl (by kernel_rfl) (by rfl) (fun K hK => ?_)
            obtain ⟨A5, c5, W3, hrun, ho, hg, _⟩ := kps_app W2 U.heap.size _ [] R24.out U.heap.size a.B j a.d (p.kps.take j) (HTk.out.below HU.out) (by have := HJ.out; have := HLk.out; simp; omega) HU.out.size
            simp only [List.length_nil, Nat.zero_add, List.nil_append] at hrun ho
            have b_ : Below U.heap.size W2 W3 := below_row R24.out hg HU.out.size
            have l_ := R31.out.grown hg (by simp only [Value.ownBlock]; intro e; injection e with e; have := HNE.out; omega)
            have HRun := Lib.hid hrun
            refine wp_appendH (by rfl) (by rfl) HRun.out ?_
            simp only [Act.put, List.setIfInBounds_toArray, List.set_cons_zero, List.set_cons_succ]
            clear hrun hg HRun
            have HU_ := Lib.hid (HU.out.trans b_)
            clear HU
            have HU := HU_
            clear HU_ b_
            clear R31
            have R31 := Lib.hid l_
            clear l_
            clear R24
            have R29 := Lib.hid ho
            clear ho
            have HTc : Hid ((fun V' => Whole V' w.heap.size 30 (brC p a) ∧ Whole V' (w.heap.size + 1) 47 #[.int .i64 x.id, .int .i64 x.tok, .int .i64 x.ver, .int .i64 x.zone, .int .u8 x.phase, .int .i64 x.since, .bool x.guard, .bool x.done]) W3) := Lib.hid ⟨Y0.out.under HU.out, Y1.out.under HU.out⟩
            refine hK.out _ _ (fun _ => HTc.out) ?_
            clear hK K HTc
            refine oneT (i := 8) rfl (by kernel_rfl) (by rfl) (fun K hK => ?_)
            obtain ⟨A8, c8, W4, hrun, ho, hg, _⟩ := kps_app W3 U.heap.size _ (p.kps.take j) R29.out (W1.heap.size + 1) (some ⟨W1.heap.size, 0, none⟩) 1 1 [x] (rdK_whole R31.out) (by have := HJ.out; have := HLk.out; simp; omega) HU.out.size
            rw [HLk.out] at hrun ho
            have b_ : Below U.heap.size W3 W4 := below_row R29.out hg HU.out.size
            have HRun := Lib.hid hrun
            refine wp_appendH (by rfl) (by rfl) HRun.out ?_
            simp only [Act.put, List.setIfInBounds_toArray, List.set_cons_zero, List.set_cons_succ]
            clear hrun hg HRun
            have HU_ := Lib.hid (HU.out.trans b_)
            clear HU
            have HU := HU_
            clear HU_ b_
            clear R29
            clear R31
            have R32 := Lib.hid ho
            clear ho
            have HTc : Hid ((fun V' => Whole V' w.heap.size 30 (brC p a) ∧ Whole V' (w.heap.size + 1) 47 #[.int .i64 x.id, .int .i64 x.tok, .int .i64 x.ver, .int .i64 x.zone, .int .u8 x.phase, .int .i64 x.since, .bool x.guard, .bool x.done]) W4) := Lib.hid ⟨Y0.out.under HU.out, Y1.out.under HU.out⟩
            refine hK.out _ _ (fun _ => HTc.out) ?_
            clear hK K HTc
            refine oneT (i := 13) rfl (by kernel_rfl) (by rfl) (fun K hK => ?_)
            obtain ⟨A13, c13, W5, hrun, ho, hg, _⟩ := kps_app W4 U.heap.size _ (p.kps.take j ++ [x]) R32.out U.heap.size A' (p.kps.length - j) (a.d - j) (p.kps.drop j) (HD.out.below HU.out) (by have := HJ.out; have := HLk.out; simp; omega) HU.out.size
            rw [HPL.out] at hrun ho
            rw [← HP.out] at ho
            have b_ : Below U.heap.size W4 W5 := below_row R32.out hg HU.out.size
            have HRun := Lib.hid hrun
            refine wp_appendH (by rfl) (by rfl) HRun.out ?_
            simp only [Act.put, List.setIfInBounds_toArray, List.set_cons_zero, List.set_cons_succ]
            clear hrun hg HRun
            have HU_ := Lib.hid (HU.out.trans b_)
            clear HU
            have HU := HU_
            clear HU_ b_
            clear R32
            have R37 := Lib.hid ho
            clear ho
            have HTc : Hid ((fun V' => Whole V' w.heap.size 30 (brC p a) ∧ Whole V' (w.heap.size + 1) 47 #[.int .i64 x.id, .int .i64 x.tok, .int .i64 x.ver, .int .i64 x.zone, .int .u8 x.phase, .int .i64 x.since, .bool x.guard, .bool x.done]) W5) := Lib.hid ⟨Y0.out.under HU.out, Y1.out.under HU.out⟩
            refine hK.out _ _ (fun _ => HTc.out) ?_
            clear hK K HTc
            refine oneT (i := 14) rfl (by kernel_rfl) (by rfl) (fun K hK => ?_)
            go_simp
            have HTc : Hid ((fun V' => Whole V' w.heap.size 30 (brC p a) ∧ Whole V' (w.heap.size + 1) 47 #[.int .i64 x.id, .int .i64 x.tok, .int .i64 x.ver, .int .i64 x.zone, .int .u8 x.phase, .int .i64 x.since, .bool x.guard, .bool x.done]) W5) := Lib.hid ⟨Y0.out.under HU.out, Y1.out.under HU.out⟩
            refine hK.out _ _ (fun _ => HTc.out) ?_
            clear hK K HTc
            have e19 : W5.cell? ⟨w.heap.size, 19, none⟩ = some (.slice a.B p.kps.length a.d) := (Y0.out.under HU.out).cell 19
            have f19 := (Y0.out.under HU.out).frozen 19
            refine oneL (i := 15) (by kernel_rfl) rfl (by kernel_rfl) (by rfl) (fun K hK => ?_)
            go_simp
            refine hK.out _ _ ?_
            clear hK K
            refine doneT (by kernel_rfl) ?_ _
            go_upto_region 5 with fail
            refine wpV (fun X hX => ?_)
            have e0 := set19L (Y0.out.under HU.out) (putK p.kps x) A13 c13
            have k := Only.set W5 w.heap.size 19 (.slice A13 (putK p.kps x).length c13)
            rw [hX] at e0 k
            have Z0 := Lib.hid e0
            have Z2 := Lib.hid (k.far (Y2.out.under HU.out) (by omega))
            have hou := HOU.out.under HU.out
            have hw1 : OwB base X { p with kps := putK p.kps x } ⟨a.C, a.e, a.A, a.c, A13, c13⟩ := ⟨k.own hou.ms (Y0.out.under HU.out) (by decide), hou.its.only k (Y0.out.under HU.out) (by decide), (R37.out.only k (Y0.out.under HU.out) (by decide)).weaker HSU.out⟩
            have hb1 := k.bel (HBU.out.trans (HU.out.mono HSU.out)) HBs.out
            have HW1 := Lib.hid hw1
            have HB1 := Lib.hid hb1
            have HA : Hid ((brC { p with kps := putK p.kps x } ⟨a.C, a.e, a.A, a.c, A13, c13⟩).all (·.oneCell') = true) := Lib.hid (brC_one _ _)
            clear hX e0 k hou hw1 hb1 e19 f19 HL HT0 HH HRe
            go_wp2_with (first | refine wpList_load_row (by rfl) 30 _ rfl w.heap.size (by rfl) 30 _ (0, 0) _ Z0.out Tryz.underlying30 rfl (by kernel_rfl) ?_ | refine wpList_store_row (by rfl) 30 _ _ rfl (w.heap.size + 1 + 1) (brC { p with kps := putK p.kps x } ⟨a.C, a.e, a.A, a.c, A13, c13⟩) (by rfl) (by rfl) 30 _ Z2.out (by kernel_rfl) rfl HA.out ?_)
            exact brain_end (k := 4) rfl (by rfl) (setRow_heap _ _ _ _ _ _ Z2.out) rfl ⟨⟨a.C, a.e, a.A, a.c, A13, c13⟩, rfl, HW1.out.rowset Z2.out (by decide) (by decide) (by decide) _, below_rowsetB HB1.out (by have := HBs.out; omega) _⟩
        · obtain ⟨W1, hW⟩ : ∃ W, U.drew.alloc (.cells #[.int .i64 x.id, .int .i64 x.tok, .int .i64 x.ver, .int .i64 x.zone, .int .u8 x.phase, .int .i64 x.since, .bool x.guard, .bool x.done] 47) = W := ⟨_, rfl⟩
          have b_ : Below U.drew.heap.size U.drew W1 := by rw [← hW]; exact (Below.refl _ _).alloc (Nat.le_refl _) _
          have r_ : Whole W1 U.drew.heap.size 47 #[.int .i64 x.id, .int .i64 x.tok, .int .i64 x.ver, .int .i64 x.zone, .int .u8 x.phase, .int .i64 x.since, .bool x.guard, .bool x.done] := by rw [← hW]; exact Whole.new _ _ _
          have HNE := Lib.hid (show W1.heap.size = U.drew.heap.size + 1 by rw [← hW, World.size_alloc])
          go_simp
          clear hW
          have HU_ := Lib.hid (HU.out.trans (b_.mono HU.out.size))
          clear HU
          have HU := HU_
          clear HU_
          have R31 := Lib.hid r_
          clear r_ b_
          have HTc : Hid ((fun V' => Whole V' w.heap.size 30 (brC p a) ∧ Whole V' (w.heap.size + 1) 47 #[.int .i64 x.id, .int .i64 x.tok, .int .i64 x.ver, .int .i64 x.zone, .int .u8 x.phase, .int .i64 x.since, .bool x.guard, .bool x.done]) W1) := Lib.hid ⟨Y0.out.under HU.out, Y1.out.under HU.out⟩
          refine hK.out _ _ (fun _ => HTc.out) ?_
          clear hK K HTc
          refine oneT (i := 0) rfl (by kernel_rfl) (by rfl) (fun K hK => ?_)
          obtain ⟨W2, hW⟩ : ∃ W, W1.alloc (.cells #[] 47) = W := ⟨_, rfl⟩
          have b_ : Below W1.heap.size W1 W2 := by rw [← hW]; exact (Below.refl _ _).alloc (Nat.le_refl _) _
          have r_ : KpsAt U.heap.size W2 (.slice (some ⟨W1.heap.size, 0, none⟩) 0 0) [] := by rw [← hW]; exact World.ownsRow_made (base := U.heap.size) (e := 47) (size := 8) W1 #[] 0 HU.out.size (Nat.zero_le _) rfl
          go_simp
          clear hW
          have R31_ := Lib.hid (R31.out.under b_)
          clear R31
          have R31 := R31_
          clear R31_
          have HU_ := Lib.hid (HU.out.trans (b_.mono HU.out.size))
          clear HU
          have HU := HU_
          clear HU_
          have R24 := Lib.hid r_
          clear r_ b_
          have HTc : Hid ((fun V' => Whole V' w.heap.size 30 (brC p a) ∧ Whole V' (w.heap.size + 1) 47 #[.int .i64 x.id, .int .i64 x.tok, .int .i64 x.ver, .int .i64 x.zone, .int .u8 x.phase, .int .i64 x.since, .bool x.guard, .bool x.done]) W2) := Lib.hid ⟨Y0.out.under HU.out, Y1.out.under HU.out⟩
          refine hK.out _ _ (fun _ => HTc.out) ?_
          clear hK K HTc
          refine oneT (i := 5) rfl (by kernel_rfl) (by rfl) (fun K hK => ?_)
          obtain ⟨A5, c5, W3, hrun, ho, hg, _⟩ := kps_app W2 U.heap.size _ [] R24.out U.heap.size a.B j a.d (p.kps.take j) (HTk.out.below HU.out) (by have := HJ.out; have := HLk.out; simp; omega) HU.out.size
          simp only [List.length_nil, Nat.zero_add, List.nil_append] at hrun ho
          have b_ : Below U.heap.size W2 W3 := below_row R24.out hg HU.out.size
          have l_ := R31.out.grown hg (by simp only [Value.ownBlock]; intro e; injection e with e; have := HNE.out; omega)
          have HRun := Lib.hid hrun
          refine wp_appendH (by rfl) (by rfl) HRun.out ?_
          simp only [Act.put, List.setIfInBounds_toArray, List.set_cons_zero, List.set_cons_succ]
          clear hrun hg HRun
          have HU_ := Lib.hid (HU.out.trans b_)
          clear HU
          have HU := HU_
          clear HU_ b_
          clear R31
          have R31 := Lib.hid l_
          clear l_
          clear R24
          have R29 := Lib.hid ho
          clear ho
          have HTc : Hid ((fun V' => Whole V' w.heap.size 30 (brC p a) ∧ Whole V' (w.heap.size + 1) 47 #[.int .i64 x.id, .int .i64 x.tok, .int .i64 x.ver, .int .i64 x.zone, .int .u8 x.phase, .int .i64 x.since, .bool x.guard, .bool x.done]) W3) := Lib.hid ⟨Y0.out.under HU.out, Y1.out.under HU.out⟩
          refine hK.out _ _ (fun _ => HTc.out) ?_
          clear hK K HTc
          refine oneT (i := 8) rfl (by kernel_rfl) (by rfl) (fun K hK => ?_)
          obtain ⟨A8, c8, W4, hrun, ho, hg, _⟩ := kps_app W3 U.heap.size _ (p.kps.take j) R29.out (U.drew.heap.size + 1) (some ⟨U.drew.heap.size, 0, none⟩) 1 1 [x] (rdK_whole R31.out) (by have := HJ.out; have := HLk.out; simp; omega) HU.out.size
          rw [HLk.out] at hrun ho
          have b_ : Below U.heap.size W3 W4 := below_row R29.out hg HU.out.size
          have HRun := Lib.hid hrun
          refine wp_appendH (by rfl) (by rfl) HRun.out ?_
          simp only [Act.put, List.setIfInBounds_toArray, List.set_cons_zero, List.set_cons_succ]
          clear hrun hg HRun
          have HU_ := Lib.hid (HU.out.trans b_)
          clear HU
          have HU := HU_
          clear HU_ b_
          clear R29
          clear R31
          have R32 := Lib.hid ho
          clear ho
          have HTc : Hid ((fun V' => Whole V' w.heap.size 30 (brC p a) ∧ Whole V' (w.heap.size + 1) 47 #[.int .i64 x.id, .int .i64 x.tok, .int .i64 x.ver, .int .i64 x.zone, .int .u8 x.phase, .int .i64 x.since, .bool x.guard, .bool x.done]) W4) := Lib.hid ⟨Y0.out.under HU.out, Y1.out.under HU.out⟩
          refine hK.out _ _ (fun _ => HTc.out) ?_
          clear hK K HTc
          refine oneT (i := 13) rfl (by kernel_rfl) (by rfl) (fun K hK => ?_)
          obtain ⟨A13, c13, W5, hrun, ho, hg, _⟩ := kps_app W4 U.heap.size _ (p.kps.take j ++ [x]) R32.out U.heap.size A' (p.kps.length - j) (a.d - j) (p.kps.drop j) (HD.out.below HU.out) (by have := HJ.out; have := HLk.out; simp; omega) HU.out.size
          rw [HPL.out] at hrun ho
          rw [← HP.out] at ho
          have b_ : Below U.heap.size W4 W5 := below_row R32.out hg HU.out.size
          have HRun := Lib.hid hrun
          refine wp_appendH (by rfl) (by rfl) HRun.out ?_
          simp only [Act.put, List.setIfInBounds_toArray, List.set_cons_zero, List.set_cons_succ]
          clear hrun hg HRun
          have HU_ := Lib.hid (HU.out.trans b_)
          clear HU
          have HU := HU_
          clear HU_ b_
          clear R32
          have R37 := Lib.hid ho
          clear ho
          have HTc : Hid ((fun V' => Whole V' w.heap.size 30 (brC p a) ∧ Whole V' (w.heap.size + 1) 47 #[.int .i64 x.id, .int .i64 x.tok, .int .i64 x.ver, .int .i64 x.zone, .int .u8 x.phase, .int .i64 x.since, .bool x.guard, .bool x.done]) W5) := Lib.hid ⟨Y0.out.under HU.out, Y1.out.under HU.out⟩
          refine hK.out _ _ (fun _ => HTc.out) ?_
          clear hK K HTc
          refine oneT (i := 14) rfl (by kernel_rfl) (by rfl) (fun K hK => ?_)
          go_simp
          have HTc : Hid ((fun V' => Whole V' w.heap.size 30 (brC p a) ∧ Whole V' (w.heap.size + 1) 47 #[.int .i64 x.id, .int .i64 x.tok, .int .i64 x.ver, .int .i64 x.zone, .int .u8 x.phase, .int .i64 x.since, .bool x.guard, .bool x.done]) W5) := Lib.hid ⟨Y0.out.under HU.out, Y1.out.under HU.out⟩
          refine hK.out _ _ (fun _ => HTc.out) ?_
          clear hK K HTc
          have e19 : W5.cell? ⟨w.heap.size, 19, none⟩ = some (.slice a.B p.kps.length a.d) := (Y0.out.under HU.out).cell 19
          have f19 := (Y0.out.under HU.out).frozen 19
          refine oneL (i := 15) (by kernel_rfl) rfl (by kernel_rfl) (by rfl) (fun K hK => ?_)
          go_simp
          refine hK.out _ _ ?_
          clear hK K
          refine doneT (by kernel_rfl) ?_ _
          go_upto_region 5 with fail
          refine wpV (fun X hX => ?_)
          have e0 := set19L (Y0.out.under HU.out) (putK p.kps x) A13 c13
          have k := Only.set W5 w.heap.size 19 (.slice A13 (putK p.kps x).length c13)
          rw [hX] at e0 k
          have Z0 := Lib.hid e0
          have Z2 := Lib.hid (k.far (Y2.out.under HU.out) (by omega))
          have hou := HOU.out.under HU.out
          have hw1 : OwB base X { p with kps := putK p.kps x } ⟨a.C, a.e, a.A, a.c, A13, c13⟩ := ⟨k.own hou.ms (Y0.out.under HU.out) (by decide), hou.its.only k (Y0.out.under HU.out) (by decide), (R37.out.only k (Y0.out.under HU.out) (by decide)).weaker HSU.out⟩
          have hb1 := k.bel (HBU.out.trans (HU.out.mono HSU.out)) HBs.out
          have HW1 := Lib.hid hw1
          have HB1 := Lib.hid hb1
          have HA : Hid ((brC { p with kps := putK p.kps x } ⟨a.C, a.e, a.A, a.c, A13, c13⟩).all (·.oneCell') = true) := Lib.hid (brC_one _ _)
          clear hX e0 k hou hw1 hb1 e19 f19 HL HT0 HH HRe
          go_wp2_with (first | refine wpList_load_row (by rfl) 30 _ rfl w.heap.size (by rfl) 30 _ (0, 0) _ Z0.out Tryz.underlying30 rfl (by kernel_rfl) ?_ | refine wpList_store_row (by rfl) 30 _ _ rfl (w.heap.size + 1 + 1) (brC { p with kps := putK p.kps x } ⟨a.C, a.e, a.A, a.c, A13, c13⟩) (by rfl) (by rfl) 30 _ Z2.out (by kernel_rfl) rfl HA.out ?_)
          exact brain_end (k := 4) rfl (by rfl) (setRow_heap _ _ _ _ _ _ Z2.out) rfl ⟨⟨a.C, a.e, a.A, a.c, A13, c13⟩, rfl, HW1.out.rowset Z2.out (by decide) (by decide) (by decide) _, below_rowsetB HB1.out (by have := HBs.out; omega) _⟩
    · have HP := Lib.hid (putK_at HT.out (fun z hz => by rw [List.getElem?_eq_none (by omega)] at hz; cases hz))
      go_wp2_with fail
      go_quiet (fail)
      clear hlt
      go_upto_region 4 with fail
      clear c19 z0
      refine wpV (fun U hU => ?_)
      have bU : Below V.heap.size V U := by rw [← hU]; first | exact below_drewB (below_drewB (Below.refl _ V) _) _ | exact below_drewB (Below.refl _ V) _
      have Y0 := Lib.hid (X0.out.under bU)
      have Y1 := Lib.hid (X1.out.under bU)
      have Y2 := Lib.hid (X2.out.under bU)
      have HOU := Lib.hid (HO.out.under bU)
      have HBU := Lib.hid (HB.out.trans (bU.mono HSz.out))
      have HSU := Lib.hid (Nat.le_trans HSz.out bU.size)
      clear hU bU X0 X1 X2 HO HB HSz
      have HR := Lib.hid (show RdK U U.heap.size a.B p.kps.length p.kps from HOU.out.kps.read)
      have hhead := fun W => run_headF Tryz.underlying26 rfl info_kp a.B p.kps.length a.d j (by have := HCd.out; omega) W
      obtain ⟨A', hrest, hA'⟩ := run_restF Tryz.underlying26 rfl info_kp a.B p.kps.length a.d j hj
      have HH := Lib.hid hhead
      have HRe := Lib.hid hrest
      have HD := Lib.hid (show RdK U U.heap.size A' (p.kps.length - j) (p.kps.drop j) from HR.out.drop hj (fun h b off e => hA' ⟨h, HCd.out⟩ b off e))
      have HTk := Lib.hid (show RdK U U.heap.size a.B j (p.kps.take j) from HR.out.take hj)
      clear hhead hrest hA'
      have HLk := Lib.hid (show (p.kps.take j).length = j by rw [List.length_take]; omega)
      have HJ := Lib.hid hj
      have HPL := Lib.hid (show (p.kps.take j ++ [x]).length + (p.kps.length - j) = (putK p.kps x).length by rw [HP.out]; simp only [List.length_append, List.length_take, List.length_drop, List.length_singleton])
      have HT0 : Hid ((fun V' => Whole V' w.heap.size 30 (brC p a) ∧ Whole V' (w.heap.size + 1) 47 #[.int .i64 x.id, .int .i64 x.tok, .int .i64 x.ver, .int .i64 x.zone, .int .u8 x.phase, .int .i64 x.since, .bool x.guard, .bool x.done]) U.drew) := Lib.hid ⟨Y0.out, Y1.out⟩
      have HL : Hid (∀ V', (fun V' => Whole V' w.heap.size 30 (brC p a) ∧ Whole V' (w.heap.size + 1) 47 #[.int .i64 x.id, .int .i64 x.tok, .int .i64 x.ver, .int .i64 x.zone, .int .u8 x.phase, .int .i64 x.since, .bool x.guard, .bool x.done]) V' → V'.cell? ⟨w.heap.size, 19, none⟩ = some (.slice a.B p.kps.length a.d) ∧ V'.cell? ⟨w.heap.size + 1, 0, none⟩ = some (.int .i64 x.id) ∧ V'.cell? ⟨w.heap.size + 1, 1, none⟩ = some (.int .i64 x.tok) ∧ V'.cell? ⟨w.heap.size + 1, 2, none⟩ = some (.int .i64 x.ver) ∧ V'.cell? ⟨w.heap.size + 1, 3, none⟩ = some (.int .i64 x.zone) ∧ V'.cell? ⟨w.heap.size + 1, 4, none⟩ = some (.int .u8 x.phase) ∧ V'.cell? ⟨w.heap.size + 1, 5, none⟩ = some (.int .i64 x.since) ∧ V'.cell? ⟨w.heap.size + 1, 6, none⟩ = some (.bool x.guard) ∧ V'.cell? ⟨w.heap.size + 1, 7, none⟩ = some (.bool x.done)) := Lib.hid (fun V' h => ⟨h.1.cell 19, h.2.cell 0, h.2.cell 1, h.2.cell 2, h.2.cell 3, h.2.cell 4, h.2.cell 5, h.2.cell 6, h.2.cell 7⟩)
      have HU := Lib.hid (show Below U.heap.size U U.drew from below_drewB (Below.refl _ U) 1)
      refine wp_region_T (ls := [15]) (T := (fun V' => Whole V' w.heap.size 30 (brC p a) ∧ Whole V' (w.heap.size + 1) 47 #[.int .i64 x.id, .int .i64 x.tok, .int .i64 x.ver, .int .i64 x.zone, .int .u8 x.phase, .int .i64 x.since, .bool x.guard, .bool x.done])) (by kernel_rfl) ?_
      refine takeP (i := 1) (v := ?_) rfl (by kernel_rfl) (by kernel_rfl) (by kernel_rfl) (by kernel_rfl) (fun _ _ _ h => h) (by rfl) ?_ (fun _ => HT0.out) ?_
      rotate_left
      · intro V'; go_simp <;> with_reducible rfl
      simp only [Act.put, List.setIfInBounds_toArray, List.set_cons_zero, List.set_cons_succ]
      refine takeT (i := 2) (v := ?_) rfl (by kernel_rfl) (by kernel_rfl) (by kernel_rfl) (by kernel_rfl) (fun _ _ _ h => h) (by rfl) ?_ HT0.out ?_
      rotate_left
      · intro V' hV; obtain ⟨y19, y0, y1, y2, y3, y4, y5, y6, y7⟩ := HL.out V' hV; go_simp <;> with_reducible rfl
      simp only [Act.put, List.setIfInBounds_toArray, List.set_cons_zero, List.set_cons_succ]
      refine takeP (i := 3) (v := ?_) rfl (by kernel_rfl) (by kernel_rfl) (by kernel_rfl) (by kernel_rfl) (fun _ _ _ h => h) (by rfl) ?_ (fun _ => HT0.out) ?_
      rotate_left
      · intro V'; go_simp <;> with_reducible rfl
      simp only [Act.put, List.setIfInBounds_toArray, List.set_cons_zero, List.set_cons_succ]
      refine takeP (i := 4) (v := .slice a.B j a.d) rfl (by kernel_rfl) (by kernel_rfl) (by kernel_rfl) (by kernel_rfl) (fun _ _ _ h => h) (by rfl) ?_ (fun _ => HT0.out) ?_
      · intro V'; have hs := HH.out V'; go_simp <;> with_reducible rfl
      simp only [Act.put, List.setIfInBounds_toArray, List.set_cons_zero, List.set_cons_succ]
      refine takeT (i := 6) (v := ?_) rfl (by kernel_rfl) (by kernel_rfl) (by kernel_rfl) (by kernel_rfl) (fun _ _ _ h => h) (by rfl) ?_ HT0.out ?_
      rotate_left
      · intro V' hV; obtain ⟨y19, y0, y1, y2, y3, y4, y5, y6, y7⟩ := HL.out V' hV; go_simp <;> with_reducible rfl
      simp only [Act.put, List.setIfInBounds_toArray, List.set_cons_zero, List.set_cons_succ]
      refine takeP (i := 9) (v := ?_) rfl (by kernel_rfl) (by kernel_rfl) (by kernel_rfl) (by kernel_rfl) (fun _ _ _ h => h) (by rfl) ?_ (fun _ => HT0.out) ?_
      rotate_left
      · intro V'; go_simp <;> with_reducible rfl
      simp only [Act.put, List.setIfInBounds_toArray, List.set_cons_zero, List.set_cons_succ]
      refine takeT (i := 10) (v := ?_) rfl (by kernel_rfl) (by kernel_rfl) (by kernel_rfl) (by kernel_rfl) (fun _ _ _ h => h) (by rfl) ?_ HT0.out ?_
      rotate_left
      · intro V' hV; obtain ⟨y19, y0, y1, y2, y3, y4, y5, y6, y7⟩ := HL.out V' hV; go_simp <;> with_reducible rfl
      simp only [Act.put, List.setIfInBounds_toArray, List.set_cons_zero, List.set_cons_succ]
      refine takeP (i := 11) (v := ?_) rfl (by kernel_rfl) (by kernel_rfl) (by kernel_rfl) (by kernel_rfl) (fun _ _ _ h => h) (by rfl) ?_ (fun _ => HT0.out) ?_
      rotate_left
      · intro V'; go_simp <;> with_reducible rfl
      simp only [Act.put, List.setIfInBounds_toArray, List.set_cons_zero, List.set_cons_succ]
      refine takeP (i := 12) (v := .slice A' (p.kps.length - j) (a.d - j)) rfl (by kernel_rfl) (by kernel_rfl) (by kernel_rfl) (by kernel_rfl) (fun _ _ _ h => h) (by rfl) ?_ (fun _ => HT0.out) ?_
      · intro V'; have hs := HRe.out V'; go_simp <;> with_reducible rfl
      simp only [Act.put, List.setIfInBounds_toArray, List.set_cons_zero, List.set_cons_succ]
      refine twoT (i := 0) (j := 7) rfl rfl (by kernel_rfl) (by rfl) (by rfl) (fun K hK => ?_) (fun K hK => ?_)
      · obtain ⟨W1, hW⟩ : ∃ W, U.drew.alloc (.cells #[] 47) = W := ⟨_, rfl⟩
        have b_ : Below U.drew.heap.size U.drew W1 := by rw [← hW]; exact (Below.refl _ _).alloc (Nat.le_refl _) _
        have r_ : KpsAt U.heap.size W1 (.slice (some ⟨U.drew.heap.size, 0, none⟩) 0 0) [] := by rw [← hW]; exact World.ownsRow_made (base := U.heap.size) (e := 47) (size := 8) U.drew #[] 0 HU.out.size (Nat.zero_le _) rfl
        have HNE := Lib.hid (show W1.heap.size = U.drew.heap.size + 1 by rw [← hW, World.size_alloc])
        go_simp
        clear hW
        have HU_ := Lib.hid (HU.out.trans (b_.mono HU.out.size))
        clear HU
        have HU := HU_
        clear HU_
        have R24 := Lib.hid r_
        clear r_ b_
        have HTc : Hid ((fun V' => Whole V' w.heap.size 30 (brC p a) ∧ Whole V' (w.heap.size + 1) 47 #[.int .i64 x.id, .int .i64 x.tok, .int .i64 x.ver, .int .i64 x.zone, .int .u8 x.phase, .int .i64 x.since, .bool x.guard, .bool x.done]) W1) := Lib.hid ⟨Y0.out.under HU.out, Y1.out.under HU.out⟩
        refine hK.out _ _ (fun _ => HTc.out) ?_
        clear hK K HTc
        refine twoT (i := 5) (j := 7) rfl rfl (by kernel_rfl) (by rfl) (by rfl) (fun K hK => ?_) (fun K hK => ?_)
        · obtain ⟨A5, c5, W2, hrun, ho, hg, _⟩ := kps_app W1 U.heap.size _ [] R24.out U.heap.size a.B j a.d (p.kps.take j) (HTk.out.below HU.out) (by have := HJ.out; have := HLk.out; simp; omega) HU.out.size
          simp only [List.length_nil, Nat.zero_add, List.nil_append] at hrun ho
          have b_ : Below U.heap.size W1 W2 := below_row R24.out hg HU.out.size
          have HRun := Lib.hid hrun
          refine wp_appendH (by rfl) (by rfl) HRun.out ?_
          simp only [Act.put, List.setIfInBounds_toArray, List.set_cons_zero, List.set_cons_succ]
          clear hrun hg HRun
          have HU_ := Lib.hid (HU.out.trans b_)
          clear HU
          have HU := HU_
          clear HU_ b_
          clear R24
          have R29 := Lib.hid ho
          clear ho
          have HTc : Hid ((fun V' => Whole V' w.heap.size 30 (brC p a) ∧ Whole V' (w.heap.size + 1) 47 #[.int .i64 x.id, .int .i64 x.tok, .int .i64 x.ver, .int .i64 x.zone, .int .u8 x.phase, .int .i64 x.since, .bool x.guard, .bool x.done]) W2) := Lib.hid ⟨Y0.out.under HU.out, Y1.out.under HU.out⟩
          refine hK.out _ _ (fun _ => HTc.out) ?_
          clear hK K HTc
          refine oneT (i := 7) rfl (by kernel_rfl) (by rfl) (fun K hK => ?_)
          obtain ⟨W3, hW⟩ : ∃ W, W2.alloc (.cells #[.int .i64 x.id, .int .i64 x.tok, .int .i64 x.ver, .int .i64 x.zone, .int .u8 x.phase, .int .i64 x.since, .bool x.guard, .bool x.done] 47) = W := ⟨_, rfl⟩
          have b_ : Below W2.heap.size W2 W3 := by rw [← hW]; exact (Below.refl _ _).alloc (Nat.le_refl _) _
          have r_ : Whole W3 W2.heap.size 47 #[.int .i64 x.id, .int .i64 x.tok, .int .i64 x.ver, .int .i64 x.zone, .int .u8 x.phase, .int .i64 x.since, .bool x.guard, .bool x.done] := by rw [← hW]; exact Whole.new _ _ _
          go_simp
          clear hW
          have R29_ := Lib.hid (R29.out.under b_)
          clear R29
          have R29 := R29_
          clear R29_
          have HU_ := Lib.hid (HU.out.trans (b_.mono HU.out.size))
          clear HU
          have HU := HU_
          clear HU_
          have R31 := Lib.hid r_
          clear r_ b_
          have HTc : Hid ((fun V' => Whole V' w.heap.size 30 (brC p a) ∧ Whole V' (w.heap.size + 1) 47 #[.int .i64 x.id, .int .i64 x.tok, .int .i64 x.ver, .int .i64 x.zone, .int .u8 x.phase, .int .i64 x.since, .bool x.guard, .bool x.done]) W3) := Lib.hid ⟨Y0.out.under HU.out, Y1.out.under HU.out⟩
          refine hK.out _ _ (fun _ => HTc.out) ?_
          clear hK K HTc
          refine oneT (i := 8) rfl (by kernel_rfl) (by rfl) (fun K hK => ?_)
          obtain ⟨A8, c8, W4, hrun, ho, hg, _⟩ := kps_app W3 U.heap.size _ (p.kps.take j) R29.out (W2.heap.size + 1) (some ⟨W2.heap.size, 0, none⟩) 1 1 [x] (rdK_whole R31.out) (by have := HJ.out; have := HLk.out; simp; omega) HU.out.size
          rw [HLk.out] at hrun ho
          have b_ : Below U.heap.size W3 W4 := below_row R29.out hg HU.out.size
          have HRun := Lib.hid hrun
          refine wp_appendH (by rfl) (by rfl) HRun.out ?_
          simp only [Act.put, List.setIfInBounds_toArray, List.set_cons_zero, List.set_cons_succ]
          clear hrun hg HRun
          have HU_ := Lib.hid (HU.out.trans b_)
          clear HU
          have HU := HU_
          clear HU_ b_
          clear R29
          clear R31
          have R32 := Lib.hid ho
          clear ho
          have HTc : Hid ((fun V' => Whole V' w.heap.size 30 (brC p a) ∧ Whole V' (w.heap.size + 1) 47 #[.int .i64 x.id, .int .i64 x.tok, .int .i64 x.ver, .int .i64 x.zone, .int .u8 x.phase, .int .i64 x.since, .bool x.guard, .bool x.done]) W4) := Lib.hid ⟨Y0.out.under HU.out, Y1.out.under HU.out⟩
          refine hK.out _ _ (fun _ => HTc.out) ?_
          clear hK K HTc
          refine oneT (i := 13) rfl (by kernel_rfl) (by rfl) (fun K hK => ?_)
          obtain ⟨A13, c13, W5, hrun, ho, hg, _⟩ := kps_app W4 U.heap.size _ (p.kps.take j ++ [x]) R32.out U.heap.size A' (p.kps.length - j) (a.d - j) (p.kps.drop j) (HD.out.below HU.out) (by have := HJ.out; have := HLk.out; simp; omega) HU.out.size
          rw [HPL.out] at hrun ho
          rw [← HP.out] at ho
          have b_ : Below U.heap.size W4 W5 := below_row R32.out hg HU.out.size
          have HRun := Lib.hid hrun
          refine wp_appendH (by rfl) (by rfl) HRun.out ?_
          simp only [Act.put, List.setIfInBounds_toArray, List.set_cons_zero, List.set_cons_succ]
          clear hrun hg HRun
          have HU_ := Lib.hid (HU.out.trans b_)
          clear HU
          have HU := HU_
          clear HU_ b_
          clear R32
          have R37 := Lib.hid ho
          clear ho
          have HTc : Hid ((fun V' => Whole V' w.heap.size 30 (brC p a) ∧ Whole V' (w.heap.size + 1) 47 #[.int .i64 x.id, .int .i64 x.tok, .int .i64 x.ver, .int .i64 x.zone, .int .u8 x.phase, .int .i64 x.since, .bool x.guard, .bool x.done]) W5) := Lib.hid ⟨Y0.out.under HU.out, Y1.out.under HU.out⟩
          refine hK.out _ _ (fun _ => HTc.out) ?_
          clear hK K HTc
          refine oneT (i := 14) rfl (by kernel_rfl) (by rfl) (fun K hK => ?_)
          go_simp
          have HTc : Hid ((fun V' => Whole V' w.heap.size 30 (brC p a) ∧ Whole V' (w.heap.size + 1) 47 #[.int .i64 x.id, .int .i64 x.tok, .int .i64 x.ver, .int .i64 x.zone, .int .u8 x.phase, .int .i64 x.since, .bool x.guard, .bool x.done]) W5) := Lib.hid ⟨Y0.out.under HU.out, Y1.out.under HU.out⟩
          refine hK.out _ _ (fun _ => HTc.out) ?_
          clear hK K HTc
          have e19 : W5.cell? ⟨w.heap.size, 19, none⟩ = some (.slice a.B p.kps.length a.d) := (Y0.out.under HU.out).cell 19
          have f19 := (Y0.out.under HU.out).frozen 19
          refine oneL (i := 15) (by kernel_rfl) rfl (by kernel_rfl) (by rfl) (fun K hK => ?_)
          go_simp
          refine hK.out _ _ ?_
          clear hK K
          refine doneT (by kernel_rfl) ?_ _
          go_upto_region 5 with fail
          refine wpV (fun X hX => ?_)
          have e0 := set19L (Y0.out.under HU.out) (putK p.kps x) A13 c13
          have k := Only.set W5 w.heap.size 19 (.slice A13 (putK p.kps x).length c13)
          rw [hX] at e0 k
          have Z0 := Lib.hid e0
          have Z2 := Lib.hid (k.far (Y2.out.under HU.out) (by omega))
          have hou := HOU.out.under HU.out
          have hw1 : OwB base X { p with kps := putK p.kps x } ⟨a.C, a.e, a.A, a.c, A13, c13⟩ := ⟨k.own hou.ms (Y0.out.under HU.out) (by decide), hou.its.only k (Y0.out.under HU.out) (by decide), (R37.out.only k (Y0.out.under HU.out) (by decide)).weaker HSU.out⟩
          have hb1 := k.bel (HBU.out.trans (HU.out.mono HSU.out)) HBs.out
          have HW1 := Lib.hid hw1
          have HB1 := Lib.hid hb1
          have HA : Hid ((brC { p with kps := putK p.kps x } ⟨a.C, a.e, a.A, a.c, A13, c13⟩).all (·.oneCell') = true) := Lib.hid (brC_one _ _)
          clear hX e0 k hou hw1 hb1 e19 f19 HL HT0 HH HRe
          go_wp2_with (first | refine wpList_load_row (by rfl) 30 _ rfl w.heap.size (by rfl) 30 _ (0, 0) _ Z0.out Tryz.underlying30 rfl (by kernel_rfl) ?_ | refine wpList_store_row (by rfl) 30 _ _ rfl (w.heap.size + 1 + 1) (brC { p with kps := putK p.kps x } ⟨a.C, a.e, a.A, a.c, A13, c13⟩) (by rfl) (by rfl) 30 _ Z2.out (by kernel_rfl) rfl HA.out ?_)
          exact brain_end (k := 4) rfl (by rfl) (setRow_heap _ _ _ _ _ _ Z2.out) rfl ⟨⟨a.C, a.e, a.A, a.c, A13, c13⟩, rfl, HW1.out.rowset Z2.out (by decide) (by decide) (by decide) _, below_rowsetB HB1.out (by have := HBs.out; omega) _⟩
        · obtain ⟨W2, hW⟩ : ∃ W, W1.alloc (.cells #[.int .i64 x.id, .int .i64 x.tok, .int .i64 x.ver, .int .i64 x.zone, .int .u8 x.phase, .int .i64 x.since, .bool x.guard, .bool x.done] 47) = W := ⟨_, rfl⟩
          have b_ : Below W1.heap.size W1 W2 := by rw [← hW]; exact (Below.refl _ _).alloc (Nat.le_refl _) _
          have r_ : Whole W2 W1.heap.size 47 #[.int .i64 x.id, .int .i64 x.tok, .int .i64 x.ver, .int .i64 x.zone, .int .u8 x.phase, .int .i64 x.since, .bool x.guard, .bool x.done] := by rw [← hW]; exact Whole.new _ _ _
          go_simp
          clear hW
          have R24_ := Lib.hid (R24.out.under b_)
          clear R24
          have R24 := R24_
          clear R24_
          have HU_ := Lib.hid (HU.out.trans (b_.mono HU.out.size))
          clear HU
          have HU := HU_
          clear HU_
          have R31 := Lib.hid r_
          clear r_ b_
          have HTc : Hid ((fun V' => Whole V' w.heap.size 30 (brC p a) ∧ Whole V' (w.heap.size + 1) 47 #[.int .i64 x.id, .int .i64 x.tok, .int .i64 x.ver, .int .i64 x.zone, .int .u8 x.phase, .int .i64 x.since, .bool x.guard, .bool x.done]) W2) := Lib.hid ⟨Y0.out.under HU.out, Y1.out.under HU.out⟩
          refine hK.out _ _ (fun _ => HTc.out) ?_
          clear hK K HTc
          refine oneT (i := 5) rfl (by kernel_rfl) (by rfl) (fun K hK => ?_)
          obtain ⟨A5, c5, W3, hrun, ho, hg, _⟩ := kps_app W2 U.heap.size _ [] R24.out U.heap.size a.B j a.d (p.kps.take j) (HTk.out.below HU.out) (by have := HJ.out; have := HLk.out; simp; omega) HU.out.size
          simp only [List.length_nil, Nat.zero_add, List.nil_append] at hrun ho
          have b_ : Below U.heap.size W2 W3 := below_row R24.out hg HU.out.size
          have l_ := R31.out.grown hg (by simp only [Value.ownBlock]; intro e; injection e with e; have := HNE.out; omega)
          have HRun := Lib.hid hrun
          refine wp_appendH (by rfl) (by rfl) HRun.out ?_
          simp only [Act.put, List.setIfInBounds_toArray, List.set_cons_zero, List.set_cons_succ]
          clear hrun hg HRun
          have HU_ := Lib.hid (HU.out.trans b_)
          clear HU
          have HU := HU_
          clear HU_ b_
          clear R31
          have R31 := Lib.hid l_
          clear l_
          clear R24
          have R29 := Lib.hid ho
          clear ho
          have HTc : Hid ((fun V' => Whole V' w.heap.size 30 (brC p a) ∧ Whole V' (w.heap.size + 1) 47 #[.int .i64 x.id, .int .i64 x.tok, .int .i64 x.ver, .int .i64 x.zone, .int .u8 x.phase, .int .i64 x.since, .bool x.guard, .bool x.done]) W3) := Lib.hid ⟨Y0.out.under HU.out, Y1.out.under HU.out⟩
          refine hK.out _ _ (fun _ => HTc.out) ?_
          clear hK K HTc
          refine oneT (i := 8) rfl (by kernel_rfl) (by rfl) (fun K hK => ?_)
          obtain ⟨A8, c8, W4, hrun, ho, hg, _⟩ := kps_app W3 U.heap.size _ (p.kps.take j) R29.out (W1.heap.size + 1) (some ⟨W1.heap.size, 0, none⟩) 1 1 [x] (rdK_whole R31.out) (by have := HJ.out; have := HLk.out; simp; omega) HU.out.size
          rw [HLk.out] at hrun ho
          have b_ : Below U.heap.size W3 W4 := below_row R29.out hg HU.out.size
          have HRun := Lib.hid hrun
          refine wp_appendH (by rfl) (by rfl) HRun.out ?_
          simp only [Act.put, List.setIfInBounds_toArray, List.set_cons_zero, List.set_cons_succ]
          clear hrun hg HRun
          have HU_ := Lib.hid (HU.out.trans b_)
          clear HU
          have HU := HU_
          clear HU_ b_
          clear R29
          clear R31
          have R32 := Lib.hid ho
          clear ho
          have HTc : Hid ((fun V' => Whole V' w.heap.size 30 (brC p a) ∧ Whole V' (w.heap.size + 1) 47 #[.int .i64 x.id, .int .i64 x.tok, .int .i64 x.ver, .int .i64 x.zone, .int .u8 x.phase, .int .i64 x.since, .bool x.guard, .bool x.done]) W4) := Lib.hid ⟨Y0.out.under HU.out, Y1.out.under HU.out⟩
          refine hK.out _ _ (fun _ => HTc.out) ?_
          clear hK K HTc
          refine oneT (i := 13) rfl (by kernel_rfl) (by rfl) (fun K hK => ?_)
          obtain ⟨A13, c13, W5, hrun, ho, hg, _⟩ := kps_app W4 U.heap.size _ (p.kps.take j ++ [x]) R32.out U.heap.size A' (p.kps.length - j) (a.d - j) (p.kps.drop j) (HD.out.below HU.out) (by have := HJ.out; have := HLk.out; simp; omega) HU.out.size
          rw [HPL.out] at hrun ho
          rw [← HP.out] at ho
          have b_ : Below U.heap.size W4 W5 := below_row R32.out hg HU.out.size
          have HRun := Lib.hid hrun
          refine wp_appendH (by rfl) (by rfl) HRun.out ?_
          simp only [Act.put, List.setIfInBounds_toArray, List.set_cons_zero, List.set_cons_succ]
          clear hrun hg HRun
          have HU_ := Lib.hid (HU.out.trans b_)
          clear HU
          have HU := HU_
          clear HU_ b_
          clear R32
          have R37 := Lib.hid ho
          clear ho
          have HTc : Hid ((fun V' => Whole V' w.heap.size 30 (brC p a) ∧ Whole V' (w.heap.size + 1) 47 #[.int .i64 x.id, .int .i64 x.tok, .int .i64 x.ver, .int .i64 x.zone, .int .u8 x.phase, .int .i64 x.since, .bool x.guard, .bool x.done]) W5) := Lib.hid ⟨Y0.out.under HU.out, Y1.out.under HU.out⟩
          refine hK.out _ _ (fun _ => HTc.out) ?_
          clear hK K HTc
          refine oneT (i := 14) rfl (by kernel_rfl) (by rfl) (fun K hK => ?_)
          go_simp
          have HTc : Hid ((fun V' => Whole V' w.heap.size 30 (brC p a) ∧ Whole V' (w.heap.size + 1) 47 #[.int .i64 x.id, .int .i64 x.tok, .int .i64 x.ver, .int .i64 x.zone, .int .u8 x.phase, .int .i64 x.since, .bool x.guard, .bool x.done]) W5) := Lib.hid ⟨Y0.out.under HU.out, Y1.out.under HU.out⟩
          refine hK.out _ _ (fun _ => HTc.out) ?_
          clear hK K HTc
          have e19 : W5.cell? ⟨w.heap.size, 19, none⟩ = some (.slice a.B p.kps.length a.d) := (Y0.out.under HU.out).cell 19
          have f19 := (Y0.out.under HU.out).frozen 19
          refine oneL (i := 15) (by kernel_rfl) rfl (by kernel_rfl) (by rfl) (fun K hK => ?_)
          go_simp
          refine hK.out _ _ ?_
          clear hK K
          refine doneT (by kernel_rfl) ?_ _
          go_upto_region 5 with fail
          refine wpV (fun X hX => ?_)
          have e0 := set19L (Y0.out.under HU.out) (putK p.kps x) A13 c13
          have k := Only.set W5 w.heap.size 19 (.slice A13 (putK p.kps x).length c13)
          rw [hX] at e0 k
          have Z0 := Lib.hid e0
          have Z2 := Lib.hid (k.far (Y2.out.under HU.out) (by omega))
          have hou := HOU.out.under HU.out
          have hw1 : OwB base X { p with kps := putK p.kps x } ⟨a.C, a.e, a.A, a.c, A13, c13⟩ := ⟨k.own hou.ms (Y0.out.under HU.out) (by decide), hou.its.only k (Y0.out.under HU.out) (by decide), (R37.out.only k (Y0.out.under HU.out) (by decide)).weaker HSU.out⟩
          have hb1 := k.bel (HBU.out.trans (HU.out.mono HSU.out)) HBs.out
          have HW1 := Lib.hid hw1
          have HB1 := Lib.hid hb1
          have HA : Hid ((brC { p with kps := putK p.kps x } ⟨a.C, a.e, a.A, a.c, A13, c13⟩).all (·.oneCell') = true) := Lib.hid (brC_one _ _)
          clear hX e0 k hou hw1 hb1 e19 f19 HL HT0 HH HRe
          go_wp2_with (first | refine wpList_load_row (by rfl) 30 _ rfl w.heap.size (by rfl) 30 _ (0, 0) _ Z0.out Tryz.underlying30 rfl (by kernel_rfl) ?_ | refine wpList_store_row (by rfl) 30 _ _ rfl (w.heap.size + 1 + 1) (brC { p with kps := putK p.kps x } ⟨a.C, a.e, a.A, a.c, A13, c13⟩) (by rfl) (by rfl) 30 _ Z2.out (by kernel_rfl) rfl HA.out ?_)
          exact brain_end (k := 4) rfl (by rfl) (setRow_heap _ _ _ _ _ _ Z2.out) rfl ⟨⟨a.C, a.e, a.A, a.c, A13, c13⟩, rfl, HW1.out.rowset Z2.out (by decide) (by decide) (by decide) _, below_rowsetB HB1.out (by have := HBs.out; omega) _⟩
      · obtain ⟨W1, hW⟩ : ∃ W, U.drew.alloc (.cells #[.int .i64 x.id, .int .i64 x.tok, .int .i64 x.ver, .int .i64 x.zone, .int .u8 x.phase, .int .i64 x.since, .bool x.guard, .bool x.done] 47) = W := ⟨_, rfl⟩
        have b_ : Below U.drew.heap.size U.drew W1 := by rw [← hW]; exact (Below.refl _ _).alloc (Nat.le_refl _) _
        have r_ : Whole W1 U.drew.heap.size 47 #[.int .i64 x.id, .int .i64 x.tok, .int .i64 x.ver, .int .i64 x.zone, .int .u8 x.phase, .int .i64 x.since, .bool x.guard, .bool x.done] := by rw [← hW]; exact Whole.new _ _ _
        have HNE := Lib.hid (show W1.heap.size = U.drew.heap.size + 1 by rw [← hW, World.size_alloc])
        go_simp
        clear hW
        have HU_ := Lib.hid (HU.out.trans (b_.mono HU.out.size))
        clear HU
        have HU := HU_
        clear HU_
        have R31 := Lib.hid r_
        clear r_ b_
        have HTc : Hid ((fun V' => Whole V' w.heap.size 30 (brC p a) ∧ Whole V' (w.heap.size + 1) 47 #[.int .i64 x.id, .int .i64 x.tok, .int .i64 x.ver, .int .i64 x.zone, .int .u8 x.phase, .int .i64 x.since, .bool x.guard, .bool x.done]) W1) := Lib.hid ⟨Y0.out.under HU.out, Y1.out.under HU.out⟩
        refine hK.out _ _ (fun _ => HTc.out) ?_
        clear hK K HTc
        refine oneT (i := 0) rfl (by kernel_rfl) (by rfl) (fun K hK => ?_)
        obtain ⟨W2, hW⟩ : ∃ W, W1.alloc (.cells #[] 47) = W := ⟨_, rfl⟩
        have b_ : Below W1.heap.size W1 W2 := by rw [← hW]; exact (Below.refl _ _).alloc (Nat.le_refl _) _
        have r_ : KpsAt U.heap.size W2 (.slice (some ⟨W1.heap.size, 0, none⟩) 0 0) [] := by rw [← hW]; exact World.ownsRow_made (base := U.heap.size) (e := 47) (size := 8) W1 #[] 0 HU.out.size (Nat.zero_le _) rfl
        go_simp
        clear hW
        have R31_ := Lib.hid (R31.out.under b_)
        clear R31
        have R31 := R31_
        clear R31_
        have HU_ := Lib.hid (HU.out.trans (b_.mono HU.out.size))
        clear HU
        have HU := HU_
        clear HU_
        have R24 := Lib.hid r_
        clear r_ b_
        have HTc : Hid ((fun V' => Whole V' w.heap.size 30 (brC p a) ∧ Whole V' (w.heap.size + 1) 47 #[.int .i64 x.id, .int .i64 x.tok, .int .i64 x.ver, .int .i64 x.zone, .int .u8 x.phase, .int .i64 x.since, .bool x.guard, .bool x.done]) W2) := Lib.hid ⟨Y0.out.under HU.out, Y1.out.under HU.out⟩
        refine hK.out _ _ (fun _ => HTc.out) ?_
        clear hK K HTc
        refine oneT (i := 5) rfl (by kernel_rfl) (by rfl) (fun K hK => ?_)
        obtain ⟨A5, c5, W3, hrun, ho, hg, _⟩ := kps_app W2 U.heap.size _ [] R24.out U.heap.size a.B j a.d (p.kps.take j) (HTk.out.below HU.out) (by have := HJ.out; have := HLk.out; simp; omega) HU.out.size
        simp only [List.length_nil, Nat.zero_add, List.nil_append] at hrun ho
        have b_ : Below U.heap.size W2 W3 := below_row R24.out hg HU.out.size
        have l_ := R31.out.grown hg (by simp only [Value.ownBlock]; intro e; injection e with e; have := HNE.out; omega)
        have HRun := Lib.hid hrun
        refine wp_appendH (by rfl) (by rfl) HRun.out ?_
        simp only [Act.put, List.setIfInBounds_toArray, List.set_cons_zero, List.set_cons_succ]
        clear hrun hg HRun
        have HU_ := Lib.hid (HU.out.trans b_)
        clear HU
        have HU := HU_
        clear HU_ b_
        clear R31
        have R31 := Lib.hid l_
        clear l_
        clear R24
        have R29 := Lib.hid ho
        clear ho
        have HTc : Hid ((fun V' => Whole V' w.heap.size 30 (brC p a) ∧ Whole V' (w.heap.size + 1) 47 #[.int .i64 x.id, .int .i64 x.tok, .int .i64 x.ver, .int .i64 x.zone, .int .u8 x.phase, .int .i64 x.since, .bool x.guard, .bool x.done]) W3) := Lib.hid ⟨Y0.out.under HU.out, Y1.out.under HU.out⟩
        refine hK.out _ _ (fun _ => HTc.out) ?_
        clear hK K HTc
        refine oneT (i := 8) rfl (by kernel_rfl) (by rfl) (fun K hK => ?_)
        obtain ⟨A8, c8, W4, hrun, ho, hg, _⟩ := kps_app W3 U.heap.size _ (p.kps.take j) R29.out (U.drew.heap.size + 1) (some ⟨U.drew.heap.size, 0, none⟩) 1 1 [x] (rdK_whole R31.out) (by have := HJ.out; have := HLk.out; simp; omega) HU.out.size
        rw [HLk.out] at hrun ho
        have b_ : Below U.heap.size W3 W4 := below_row R29.out hg HU.out.size
        have HRun := Lib.hid hrun
        refine wp_appendH (by rfl) (by rfl) HRun.out ?_
        simp only [Act.put, List.setIfInBounds_toArray, List.set_cons_zero, List.set_cons_succ]
        clear hrun hg HRun
        have HU_ := Lib.hid (HU.out.trans b_)
        clear HU
        have HU := HU_
        clear HU_ b_
        clear R29
        clear R31
        have R32 := Lib.hid ho
        clear ho
        have HTc : Hid ((fun V' => Whole V' w.heap.size 30 (brC p a) ∧ Whole V' (w.heap.size + 1) 47 #[.int .i64 x.id, .int .i64 x.tok, .int .i64 x.ver, .int .i64 x.zone, .int .u8 x.phase, .int .i64 x.since, .bool x.guard, .bool x.done]) W4) := Lib.hid ⟨Y0.out.under HU.out, Y1.out.under HU.out⟩
        refine hK.out _ _ (fun _ => HTc.out) ?_
        clear hK K HTc
        refine oneT (i := 13) rfl (by kernel_rfl) (by rfl) (fun K hK => ?_)
        obtain ⟨A13, c13, W5, hrun, ho, hg, _⟩ := kps_app W4 U.heap.size _ (p.kps.take j ++ [x]) R32.out U.heap.size A' (p.kps.length - j) (a.d - j) (p.kps.drop j) (HD.out.below HU.out) (by have := HJ.out; have := HLk.out; simp; omega) HU.out.size
        rw [HPL.out] at hrun ho
        rw [← HP.out] at ho
        have b_ : Below U.heap.size W4 W5 := below_row R32.out hg HU.out.size
        have HRun := Lib.hid hrun
        refine wp_appendH (by rfl) (by rfl) HRun.out ?_
        simp only [Act.put, List.setIfInBounds_toArray, List.set_cons_zero, List.set_cons_succ]
        clear hrun hg HRun
        have HU_ := Lib.hid (HU.out.trans b_)
        clear HU
        have HU := HU_
        clear HU_ b_
        clear R32
        have R37 := Lib.hid ho
        clear ho
        have HTc : Hid ((fun V' => Whole V' w.heap.size 30 (brC p a) ∧ Whole V' (w.heap.size + 1) 47 #[.int .i64 x.id, .int .i64 x.tok, .int .i64 x.ver, .int .i64 x.zone, .int .u8 x.phase, .int .i64 x.since, .bool x.guard, .bool x.done]) W5) := Lib.hid ⟨Y0.out.under HU.out, Y1.out.under HU.out⟩
        refine hK.out _ _ (fun _ => HTc.out) ?_
        clear hK K HTc
        refine oneT (i := 14) rfl (by kernel_rfl) (by rfl) (fun K hK => ?_)
        go_simp
        have HTc : Hid ((fun V' => Whole V' w.heap.size 30 (brC p a) ∧ Whole V' (w.heap.size + 1) 47 #[.int .i64 x.id, .int .i64 x.tok, .int .i64 x.ver, .int .i64 x.zone, .int .u8 x.phase, .int .i64 x.since, .bool x.guard, .bool x.done]) W5) := Lib.hid ⟨Y0.out.under HU.out, Y1.out.under HU.out⟩
        refine hK.out _ _ (fun _ => HTc.out) ?_
        clear hK K HTc
        have e19 : W5.cell? ⟨w.heap.size, 19, none⟩ = some (.slice a.B p.kps.length a.d) := (Y0.out.under HU.out).cell 19
        have f19 := (Y0.out.under HU.out).frozen 19
        refine oneL (i := 15) (by kernel_rfl) rfl (by kernel_rfl) (by rfl) (fun K hK => ?_)
        go_simp
        refine hK.out _ _ ?_
        clear hK K
        refine doneT (by kernel_rfl) ?_ _
        go_upto_region 5 with fail
        refine wpV (fun X hX => ?_)
        have e0 := set19L (Y0.out.under HU.out) (putK p.kps x) A13 c13
        have k := Only.set W5 w.heap.size 19 (.slice A13 (putK p.kps x).length c13)
        rw [hX] at e0 k
        have Z0 := Lib.hid e0
        have Z2 := Lib.hid (k.far (Y2.out.under HU.out) (by omega))
        have hou := HOU.out.under HU.out
        have hw1 : OwB base X { p with kps := putK p.kps x } ⟨a.C, a.e, a.A, a.c, A13, c13⟩ := ⟨k.own hou.ms (Y0.out.under HU.out) (by decide), hou.its.only k (Y0.out.under HU.out) (by decide), (R37.out.only k (Y0.out.under HU.out) (by decide)).weaker HSU.out⟩
        have hb1 := k.bel (HBU.out.trans (HU.out.mono HSU.out)) HBs.out
        have HW1 := Lib.hid hw1
        have HB1 := Lib.hid hb1
        have HA : Hid ((brC { p with kps := putK p.kps x } ⟨a.C, a.e, a.A, a.c, A13, c13⟩).all (·.oneCell') = true) := Lib.hid (brC_one _ _)
        clear hX e0 k hou hw1 hb1 e19 f19 HL HT0 HH HRe
        go_wp2_with (first | refine wpList_load_row (by rfl) 30 _ rfl w.heap.size (by rfl) 30 _ (0, 0) _ Z0.out Tryz.underlying30 rfl (by kernel_rfl) ?_ | refine wpList_store_row (by rfl) 30 _ _ rfl (w.heap.size + 1 + 1) (brC { p with kps := putK p.kps x } ⟨a.C, a.e, a.A, a.c, A13, c13⟩) (by rfl) (by rfl) 30 _ Z2.out (by kernel_rfl) rfl HA.out ?_)
        exact brain_end (k := 4) rfl (by rfl) (setRow_heap _ _ _ _ _ _ Z2.out) rfl ⟨⟨a.C, a.e, a.A, a.c, A13, c13⟩, rfl, HW1.out.rowset Z2.out (by decide) (by decide) (by decide) _, below_rowsetB HB1.out (by have := HBs.out; omega) _⟩

end Go.Proofs.YtdaimejlcfhfiaaGreatDoor

/-
  The walk of 'keep' of package brain. Conditions: those that each theorem names.
-/
namespace Go.Proofs.YtdaimejlcfhfiaaGreatDoor
open Go.RowKit Go.Shelf

theorem keep1_any (n id : Int) (cb : Nat) (w : World) (hc : w.cell? ⟨cb, 0, none⟩ = some (.int .i64 id)) : Calls Tryz.prog 120 #[.int .i64 n, .pointer (some ⟨cb, 0, none⟩)] w (BoolPost (decide (id < n)) w) := by
  go_enter Tryz.func120, Tryz.ntmps120
  go_wp2_with fail
  go_ret
  exact ⟨rfl, Below.refl _ _⟩
/-- Where one is put. -/
theorem keep_place (l : List Kp) (x : Kp) : ∃ j, j ≤ l.length ∧ l.take j ++ [x] ++ l.drop j = putK l x ∧ ((placeF (fun n => decide (x.id < n)) (l.map Kp.id) = -1 ∧ j = l.length) ∨ (placeF (fun n => decide (x.id < n)) (l.map Kp.id) = (j : Int) ∧ j < l.length)) := by
  have e : (l.map Kp.id).findIdx? (fun n => decide (x.id < n)) = l.findIdx? (fun y => decide (x.id < y.id)) := by rw [List.findIdx?_map]; rfl
  cases hf : l.findIdx? (fun y => decide (x.id < y.id)) with
  | none =>
    refine ⟨l.length, Nat.le_refl _, (putK_at (fun y hy => ?_) (fun y hy => ?_)).symm, .inl ⟨by unfold placeF; rw [e, hf], rfl⟩⟩
    · rw [List.findIdx?_eq_none_iff] at hf
      have := hf y (by rw [List.take_length] at hy; exact hy)
      simp at this
      omega
    · rw [List.getElem?_eq_none (Nat.le_refl _)] at hy; cases hy
  | some j =>
    have h1 := hf
    rw [List.findIdx?_eq_some_iff_getElem] at h1
    obtain ⟨hj, hp, hno⟩ := h1
    refine ⟨j, Nat.le_of_lt hj, (putK_at (fun y hy => ?_) (fun y hy => ?_)).symm, .inr ⟨by unfold placeF; rw [e, hf], hj⟩⟩
    · obtain ⟨k, hk, rfl⟩ := List.getElem_of_mem hy
      rw [List.length_take] at hk
      have := hno k (by omega)
      simp only [List.getElem_take]
      simp at this
      omega
    · rw [List.getElem?_eq_getElem hj] at hy
      cases hy
      simp at hp
      omega

set_option maxRecDepth 100000 in
set_option maxHeartbeats 4000000 in
theorem keepP_any (p : Br) (a : Ad) (x : Kp) (base g : Nat) (w : World) (h : BrIn base g w p a) (hn : p.kps.length ≤ 900) :
    Calls Tryz.prog 93 #[.pointer (some ⟨g, 0, none⟩), .agg (kpC x)] w (StPost base g { p with kps := putK p.kps x } w) := by
  have hmf : ∀ (fn : Fn) (first cap : Array Value) (w : World), (Instr.makeFunc fn first cap).run Tryz.prog w = .ok (.func fn first cap) w := fun _ _ _ _ => rfl
  obtain ⟨j, hj, hput, hcase⟩ := keep_place p.kps x
  have hbase : base ≤ w.heap.size := Nat.le_trans h.ge (Nat.le_of_lt h.lt)
  obtain ⟨V, hV⟩ : ∃ V, w.alloc (.cells (kpC x) 47) = V := ⟨_, rfl⟩
  have hw : Whole V w.heap.size 47 (kpC x) := by rw [← hV]; exact Whole.new _ _ _
  have hb : Below w.heap.size w V := by rw [← hV]; exact (Below.refl _ _).alloc (Nat.le_refl _) _
  have H := Lib.hid (h.under hb)
  have HX := Lib.hid hw
  have HS := Lib.hid (Stp.of_below hb hbase)
  have HNB := Lib.hid (own_before h.own.kps (Nat.le_refl _))
  have HPut := Lib.hid hput
  have HBase := Lib.hid hbase
  have HV := Lib.hid hV
  have HCase := Lib.hid hcase
  clear h hbase hw hb hput hV hcase
  go_enter Tryz.func93, Tryz.ntmps93
  go_upto_region 1 with fail
  refine wpV (fun V2 hV2 => ?_)
  obtain rfl : V = V2 := HV.out.symm.trans hV2
  clear HV hV2
  go_wp2_with (refine wpList_load_row (by rfl) 30 _ rfl g (by rfl) 30 _ (0, 0) _ H.out.box Tryz.underlying30 rfl (by kernel_rfl) ?_)
  refine (ids_any p a V).mono ?_
  rintro e w2 ⟨b1, b2, rfl, h1, h2, h3, h4, hb2⟩
  have H2 := Lib.hid (H.out.under hb2)
  have HSq := Lib.hid (kpSeq (l := p.kps) (by omega) h1 h2 h3 h4 H2.out.own.reads.kps)
  have HX2 := Lib.hid (HX.out.under hb2)
  have HS2 := Lib.hid (HS.out.trans (Stp.of_below hb2 (Nat.le_trans HBase.out HS.out.size)))
  clear h1 h2 h3 h4 hb2 H HX HS
  go_wp2_with fail
  refine (place_any 113 b1 b2 120 w.heap.size (p.kps.map Kp.id) (fun n => decide (x.id < n)) w2 (enters_of Tryz.func113 (by kernel_rfl) rfl) (enters_of Tryz.func120 (by kernel_rfl) rfl) HSq.out (by rw [List.length_map]; omega)
    (fun n W hW => keep1_any n x.id _ W ((HX2.out.under hW).cell 0))).mono ?_
  rintro e w3 ⟨rfl, hb3⟩
  have H3 := Lib.hid (H2.out.under hb3)
  have HX3 := Lib.hid (HX2.out.under hb3)
  have HS3 := Lib.hid (HS2.out.trans (Stp.of_below hb3 (Nat.le_trans HBase.out HS2.out.size)))
  clear hb3 H2 HX2 HS2 HSq
  have hHT : Whole w3.drew g 30 (brC p a) ∧ Whole w3.drew w.heap.size 47 (kpC x) := ⟨H3.out.box.under (below_drewB (Below.refl _ w3) 1), HX3.out.under (below_drewB (Below.refl _ w3) 1)⟩
  have HT : Hid ((fun V' => Whole V' g 30 (brC p a) ∧ Whole V' w.heap.size 47 (kpC x)) w3.drew) := Lib.hid hHT
  have HL : Hid (∀ V', (Whole V' g 30 (brC p a) ∧ Whole V' w.heap.size 47 (kpC x)) → V'.cell? ⟨g, 19, none⟩ = some (.slice a.B p.kps.length a.d) ∧ V'.cell? ⟨w.heap.size, 0, none⟩ = some (.int .i64 x.id) ∧ V'.cell? ⟨w.heap.size, 1, none⟩ = some (.int .i64 x.tok) ∧ V'.cell? ⟨w.heap.size, 2, none⟩ = some (.int .i64 x.ver) ∧ V'.cell? ⟨w.heap.size, 3, none⟩ = some (.int .i64 x.zone) ∧ V'.cell? ⟨w.heap.size, 4, none⟩ = some (.int .u8 x.phase) ∧ V'.cell? ⟨w.heap.size, 5, none⟩ = some (.int .i64 x.since) ∧ V'.cell? ⟨w.heap.size, 6, none⟩ = some (.bool x.guard) ∧ V'.cell? ⟨w.heap.size, 7, none⟩ = some (.bool x.done)) := Lib.hid (fun V' h => ⟨h.1.cell 19, h.2.cell 0, h.2.cell 1, h.2.cell 2, h.2.cell 3, h.2.cell 4, h.2.cell 5, h.2.cell 6, h.2.cell 7⟩)
  clear hHT
  rcases HCase.out with ⟨hp, hjl⟩ | ⟨hp, hjl⟩
  · obtain ⟨c0, c1, c2, c3, c4, c5, c6, c7, c8, c9, c10, c11, c12, c13, c14, c15, c16, c17, c18, c19, c20, c21, c22, c23, c24, c25, c26⟩ := cells27 H3.out.box
    rw [hp]
    clear hp
    go_wp2_with fail
    clear c0 c1 c2 c3 c4 c5 c6 c7 c8 c9 c10 c11 c12 c13 c14 c15 c16 c17 c18 c19 c20 c21 c22 c23 c24 c25 c26
    subst hjl
    refine wp_region_T (ls := [11]) (T := (fun V' => Whole V' g 30 (brC p a) ∧ Whole V' w.heap.size 47 (kpC x))) (by kernel_rfl) ?_
    refine takeP (i := 0) (v := ?_) rfl (by kernel_rfl) (by kernel_rfl) (by kernel_rfl) (by kernel_rfl) (fun _ _ _ h => h) (by rfl) ?_ (fun _ => HT.out) ?_
    rotate_left
    · intro V'; go_simp <;> with_reducible rfl
    simp only [Act.put, List.setIfInBounds_toArray, List.set_cons_zero, List.set_cons_succ]
    refine takeP (i := 1) (v := ?_) rfl (by kernel_rfl) (by kernel_rfl) (by kernel_rfl) (by kernel_rfl) (fun _ _ _ h => h) (by rfl) ?_ (fun _ => HT.out) ?_
    rotate_left
    · intro V'; go_simp <;> with_reducible rfl
    simp only [Act.put, List.setIfInBounds_toArray, List.set_cons_zero, List.set_cons_succ]
    refine takeP (i := 2) (v := ?_) rfl (by kernel_rfl) (by kernel_rfl) (by kernel_rfl) (by kernel_rfl) (fun _ _ _ h => h) (by rfl) ?_ (fun _ => HT.out) ?_
    rotate_left
    · intro V'; go_simp <;> with_reducible rfl
    simp only [Act.put, List.setIfInBounds_toArray, List.set_cons_zero, List.set_cons_succ]
    refine takeP (i := 3) (v := ?_) rfl (by kernel_rfl) (by kernel_rfl) (by kernel_rfl) (by kernel_rfl) (fun _ _ _ h => h) (by rfl) ?_ (fun _ => HT.out) ?_
    rotate_left
    · intro V'; go_simp <;> with_reducible rfl
    simp only [Act.put, List.setIfInBounds_toArray, List.set_cons_zero, List.set_cons_succ]
    refine takeT (i := 4) (v := ?_) rfl (by kernel_rfl) (by kernel_rfl) (by kernel_rfl) (by kernel_rfl) (fun _ _ _ h => h) (by rfl) ?_ HT.out ?_
    rotate_left
    · intro V' hV; obtain ⟨d19, d0, d1, d2, d3, d4, d5, d6, d7⟩ := HL.out V' hV; go_simp <;> with_reducible rfl
    simp only [Act.put, List.setIfInBounds_toArray, List.set_cons_zero, List.set_cons_succ]
    refine takeP (i := 5) (v := ?_) rfl (by kernel_rfl) (by kernel_rfl) (by kernel_rfl) (by kernel_rfl) (fun _ _ _ h => h) (by rfl) ?_ (fun _ => HT.out) ?_
    rotate_left
    · intro V'; go_simp <;> with_reducible rfl
    simp only [Act.put, List.setIfInBounds_toArray, List.set_cons_zero, List.set_cons_succ]
    refine takeT (i := 6) (v := ?_) rfl (by kernel_rfl) (by kernel_rfl) (by kernel_rfl) (by kernel_rfl) (fun _ _ _ h => h) (by rfl) ?_ HT.out ?_
    rotate_left
    · intro V' hV; obtain ⟨d19, d0, d1, d2, d3, d4, d5, d6, d7⟩ := HL.out V' hV; go_simp <;> with_reducible rfl
    simp only [Act.put, List.setIfInBounds_toArray, List.set_cons_zero, List.set_cons_succ]
    obtain ⟨V3, hV3⟩ : ∃ W, w3.drew.alloc (.cells #[.int .i64 x.id, .int .i64 x.tok, .int .i64 x.ver, .int .i64 x.zone, .int .u8 x.phase, .int .i64 x.since, .bool x.guard, .bool x.done] 47) = W := ⟨_, rfl⟩
    have b3 : Below w3.heap.size w3 V3 := by rw [← hV3]; exact (below_drewB (Below.refl _ w3) 1).alloc (Nat.le_refl _) _
    have x3 : Whole V3 w3.heap.size 47 (kpC x) := by rw [← hV3]; exact Whole.new _ _ _
    have H4 := Lib.hid (H3.out.under b3)
    have HX4 := Lib.hid (HX3.out.under b3)
    have HNew := Lib.hid (show (Value.slice a.B p.kps.length a.d).ownBlock ≠ some w3.heap.size from own_before H3.out.own.kps (Nat.le_refl _))
    have HS4 := Lib.hid (HS3.out.trans (Stp.of_below b3 (Nat.le_trans HBase.out HS3.out.size)))
    have HL4 := Lib.hid x3
    clear b3 x3
    refine oneT (i := 7) rfl (by kernel_rfl) (by rfl) (fun K hK => ?_)
    go_simp
    clear hV3
    refine hK.out _ _ (fun _ => ⟨H4.out.box, HX4.out⟩) ?_
    clear hK K
    refine oneT (i := 8) rfl (by kernel_rfl) (by rfl) (fun K hK => ?_)
    go_simp
    refine (insK_any a.B p.kps.length a.d p.kps.length p.kps x w3.heap.size base V3 H4.out.own.kps rfl HL4.out HNew.out (Nat.le_refl _) (by omega) (Nat.le_trans HBase.out HS4.out.size)).mono ?_
    rintro e w5 ⟨A', c', rfl, ho, hg⟩
    rw [HPut.out] at ho
    have hln : p.kps.length + 1 = (putK p.kps x).length := by rw [putK_len]
    rw [hln] at ho
    have HG := Lib.hid hg
    have HO := Lib.hid ho
    have HT5 := Lib.hid (And.intro (H4.out.box.grown hg (Ne.symm (own_apart_F (by decide) H4.out.own.kps H4.out.box))) (HX4.out.grown hg (Ne.symm HNB.out)))
    have HS5 := Lib.hid (HS4.out.trans (Stp.own H4.out.own.kps (by decide) (Nat.le_trans HBase.out HS4.out.size) hg))
    have HLn := Lib.hid hln
    clear ho hg hln
    refine hK.out _ _ (fun _ => HT5.out) ?_
    clear hK K
    clear HT
    have HT := HT5
    refine oneT (i := 9) rfl (by kernel_rfl) (by rfl) (fun K hK => ?_)
    go_simp
    refine hK.out _ _ (fun _ => HT.out) ?_
    clear hK K
    refine oneT (i := 10) rfl (by kernel_rfl) (by rfl) (fun K hK => ?_)
    go_simp
    refine hK.out _ _ (fun _ => HT.out) ?_
    clear hK K
    have f19 := HT5.out.1.frozen 19
    have z19 := HT5.out.1.cell 19
    simp only [List.getElem?_toArray, List.getElem?_cons_zero, List.getElem?_cons_succ] at z19
    refine oneL (i := 11) (by kernel_rfl) rfl (by kernel_rfl) (by rfl) (fun K hK => ?_)
    go_simp
    refine hK.out _ _ ?_
    clear hK K
    refine doneT (by kernel_rfl) ?_ _
    go_wp2_with fail
    go_end0
    have hfin := H4.out.kps HG.out HO.out
    rw [← HLn.out] at hfin
    exact ⟨rfl, HS5.out.trans (Stp.set HT5.out.1 (by decide) H4.out.ge _ _), _, hfin⟩
  · rw [hp]
    clear hp
    have hjn : decide ((j : Int) < 0) = false := by simp
    go_wp2_with fail
    refine wp_region_T (ls := [11]) (T := (fun V' => Whole V' g 30 (brC p a) ∧ Whole V' w.heap.size 47 (kpC x))) (by kernel_rfl) ?_
    refine takeP (i := 0) (v := ?_) rfl (by kernel_rfl) (by kernel_rfl) (by kernel_rfl) (by kernel_rfl) (fun _ _ _ h => h) (by rfl) ?_ (fun _ => HT.out) ?_
    rotate_left
    · intro V'; go_simp <;> with_reducible rfl
    simp only [Act.put, List.setIfInBounds_toArray, List.set_cons_zero, List.set_cons_succ]
    refine takeP (i := 1) (v := ?_) rfl (by kernel_rfl) (by kernel_rfl) (by kernel_rfl) (by kernel_rfl) (fun _ _ _ h => h) (by rfl) ?_ (fun _ => HT.out) ?_
    rotate_left
    · intro V'; go_simp <;> with_reducible rfl
    simp only [Act.put, List.setIfInBounds_toArray, List.set_cons_zero, List.set_cons_succ]
    refine takeP (i := 2) (v := ?_) rfl (by kernel_rfl) (by kernel_rfl) (by kernel_rfl) (by kernel_rfl) (fun _ _ _ h => h) (by rfl) ?_ (fun _ => HT.out) ?_
    rotate_left
    · intro V'; go_simp <;> with_reducible rfl
    simp only [Act.put, List.setIfInBounds_toArray, List.set_cons_zero, List.set_cons_succ]
    refine takeP (i := 3) (v := ?_) rfl (by kernel_rfl) (by kernel_rfl) (by kernel_rfl) (by kernel_rfl) (fun _ _ _ h => h) (by rfl) ?_ (fun _ => HT.out) ?_
    rotate_left
    · intro V'; go_simp <;> with_reducible rfl
    simp only [Act.put, List.setIfInBounds_toArray, List.set_cons_zero, List.set_cons_succ]
    refine takeT (i := 4) (v := ?_) rfl (by kernel_rfl) (by kernel_rfl) (by kernel_rfl) (by kernel_rfl) (fun _ _ _ h => h) (by rfl) ?_ HT.out ?_
    rotate_left
    · intro V' hV; obtain ⟨d19, d0, d1, d2, d3, d4, d5, d6, d7⟩ := HL.out V' hV; go_simp <;> with_reducible rfl
    simp only [Act.put, List.setIfInBounds_toArray, List.set_cons_zero, List.set_cons_succ]
    refine takeP (i := 5) (v := ?_) rfl (by kernel_rfl) (by kernel_rfl) (by kernel_rfl) (by kernel_rfl) (fun _ _ _ h => h) (by rfl) ?_ (fun _ => HT.out) ?_
    rotate_left
    · intro V'; go_simp <;> with_reducible rfl
    simp only [Act.put, List.setIfInBounds_toArray, List.set_cons_zero, List.set_cons_succ]
    refine takeT (i := 6) (v := ?_) rfl (by kernel_rfl) (by kernel_rfl) (by kernel_rfl) (by kernel_rfl) (fun _ _ _ h => h) (by rfl) ?_ HT.out ?_
    rotate_left
    · intro V' hV; obtain ⟨d19, d0, d1, d2, d3, d4, d5, d6, d7⟩ := HL.out V' hV; go_simp <;> with_reducible rfl
    simp only [Act.put, List.setIfInBounds_toArray, List.set_cons_zero, List.set_cons_succ]
    obtain ⟨V3, hV3⟩ : ∃ W, w3.drew.alloc (.cells #[.int .i64 x.id, .int .i64 x.tok, .int .i64 x.ver, .int .i64 x.zone, .int .u8 x.phase, .int .i64 x.since, .bool x.guard, .bool x.done] 47) = W := ⟨_, rfl⟩
    have b3 : Below w3.heap.size w3 V3 := by rw [← hV3]; exact (below_drewB (Below.refl _ w3) 1).alloc (Nat.le_refl _) _
    have x3 : Whole V3 w3.heap.size 47 (kpC x) := by rw [← hV3]; exact Whole.new _ _ _
    have H4 := Lib.hid (H3.out.under b3)
    have HX4 := Lib.hid (HX3.out.under b3)
    have HNew := Lib.hid (show (Value.slice a.B p.kps.length a.d).ownBlock ≠ some w3.heap.size from own_before H3.out.own.kps (Nat.le_refl _))
    have HS4 := Lib.hid (HS3.out.trans (Stp.of_below b3 (Nat.le_trans HBase.out HS3.out.size)))
    have HL4 := Lib.hid x3
    clear b3 x3
    refine oneT (i := 7) rfl (by kernel_rfl) (by rfl) (fun K hK => ?_)
    go_simp
    clear hV3
    refine hK.out _ _ (fun _ => ⟨H4.out.box, HX4.out⟩) ?_
    clear hK K
    refine oneT (i := 8) rfl (by kernel_rfl) (by rfl) (fun K hK => ?_)
    go_simp
    refine (insK_any a.B p.kps.length a.d j p.kps x w3.heap.size base V3 H4.out.own.kps rfl HL4.out HNew.out hj (by omega) (Nat.le_trans HBase.out HS4.out.size)).mono ?_
    rintro e w5 ⟨A', c', rfl, ho, hg⟩
    rw [HPut.out] at ho
    have hln : p.kps.length + 1 = (putK p.kps x).length := by rw [putK_len]
    rw [hln] at ho
    have HG := Lib.hid hg
    have HO := Lib.hid ho
    have HT5 := Lib.hid (And.intro (H4.out.box.grown hg (Ne.symm (own_apart_F (by decide) H4.out.own.kps H4.out.box))) (HX4.out.grown hg (Ne.symm HNB.out)))
    have HS5 := Lib.hid (HS4.out.trans (Stp.own H4.out.own.kps (by decide) (Nat.le_trans HBase.out HS4.out.size) hg))
    have HLn := Lib.hid hln
    clear ho hg hln
    refine hK.out _ _ (fun _ => HT5.out) ?_
    clear hK K
    clear HT
    have HT := HT5
    refine oneT (i := 9) rfl (by kernel_rfl) (by rfl) (fun K hK => ?_)
    go_simp
    refine hK.out _ _ (fun _ => HT.out) ?_
    clear hK K
    refine oneT (i := 10) rfl (by kernel_rfl) (by rfl) (fun K hK => ?_)
    go_simp
    refine hK.out _ _ (fun _ => HT.out) ?_
    clear hK K
    have f19 := HT5.out.1.frozen 19
    have z19 := HT5.out.1.cell 19
    simp only [List.getElem?_toArray, List.getElem?_cons_zero, List.getElem?_cons_succ] at z19
    refine oneL (i := 11) (by kernel_rfl) rfl (by kernel_rfl) (by rfl) (fun K hK => ?_)
    go_simp
    refine hK.out _ _ ?_
    clear hK K
    refine doneT (by kernel_rfl) ?_ _
    go_wp2_with fail
    go_end0
    have hfin := H4.out.kps HG.out HO.out
    rw [← HLn.out] at hfin
    exact ⟨rfl, HS5.out.trans (Stp.set HT5.out.1 (by decide) H4.out.ge _ _), _, hfin⟩

end Go.Proofs.YtdaimejlcfhfiaaGreatDoor

/-
  The walk of 'made' of package brain. Conditions: those that each theorem names.
-/
namespace Go.Proofs.YtdaimejlcfhfiaaGreatDoor
open Go.RowKit Go.Shelf

theorem cells8 {w : World} {g : Nat} {t : TypeId} {v0 v1 v2 v3 v4 v5 v6 v7 : Value} (h : Whole w g t #[v0, v1, v2, v3, v4, v5, v6, v7]) : w.cell? ⟨g, 0, none⟩ = some v0 ∧ w.cell? ⟨g, 1, none⟩ = some v1 ∧ w.cell? ⟨g, 2, none⟩ = some v2 ∧ w.cell? ⟨g, 3, none⟩ = some v3 ∧ w.cell? ⟨g, 4, none⟩ = some v4 ∧ w.cell? ⟨g, 5, none⟩ = some v5 ∧ w.cell? ⟨g, 6, none⟩ = some v6 ∧ w.cell? ⟨g, 7, none⟩ = some v7 := ⟨h.cell 0, h.cell 1, h.cell 2, h.cell 3, h.cell 4, h.cell 5, h.cell 6, h.cell 7⟩
/-- The brain behind what a launch made. -/
def madeP (p : Br) (t id now : Int) (x : It) : Br :=
  { p with its := dropI t p.its, kps := putK p.kps ⟨id, t, x.ver, x.zone, if x.warm then 9 else 1, now, false, false⟩, rf := if p.rf.st = 1 then { p.rf with fails := 0 } else p.rf }

set_option maxRecDepth 100000 in
set_option maxHeartbeats 4000000 in
theorem made_any (p : Br) (a : Ad) (t id now : Int) (i base g : Nat) (x : It) (w : World) (h : BrIn base g w p a) (hi : p.its.findIdx? (fun x => decide (x.tok = t)) = some i) (hx : p.its[i]? = some x) (hn : p.its.length ≤ 1000) (hk : p.kps.length ≤ 900) :
    Calls Tryz.prog 84 #[.pointer (some ⟨g, 0, none⟩), .int .i64 t, .int .i64 id, .int .i64 now] w (StPost base g (madeP p t id now x) w) := by
  obtain ⟨hfi, hil⟩ := tokenB_some hi
  have hbase : base ≤ w.heap.size := Nat.le_trans h.ge (Nat.le_of_lt h.lt)
  have H := Lib.hid h
  have HF := Lib.hid hfi
  have HD := Lib.hid (dropI_at hi)
  have HBase := Lib.hid hbase
  have HX := Lib.hid hx
  obtain ⟨tok, ver, zone, warm⟩ := x
  clear h hfi hi hbase hx
  go_enter Tryz.func84, Tryz.ntmps84
  go_wp2_with (refine wpList_load_row (by rfl) 30 _ rfl g (by rfl) 30 _ (0, 0) _ H.out.box Tryz.underlying30 rfl (by kernel_rfl) ?_)
  refine (btoken_any p a t w.heap.size w H.out.own.reads (Nat.le_refl _) hn).mono ?_
  rintro e w1 ⟨rfl, hb1⟩
  rw [HF.out]
  have H1 := Lib.hid (H.out.under hb1)
  have HS1 := Lib.hid (Stp.of_below hb1 HBase.out)
  clear hb1 H
  have HB1 := Lib.hid (Nat.le_trans HBase.out HS1.out.size)
  obtain ⟨b, off, hA, hbl, hc⟩ := RdI.at_ H1.out.own.its.read (by omega)
  obtain ⟨x0, x1, x2, x3⟩ := hc i _ HX.out
  have c18 := (cells27 H1.out.box).2.2.2.2.2.2.2.2.2.2.2.2.2.2.2.2.2.2.1
  rw [hA] at c18
  obtain ⟨hbV, v0, v1⟩ := two_new w1 45 47 (itC ⟨tok, ver, zone, warm⟩) (kpC ⟨id, t, ver, zone, 1, now, false, false⟩)
  have hiI : (i : Int) < (p.its.length : Int) := by omega
  have HA := Lib.hid hA
  clear hc hbl hA
  go_upto_region 3 with fail
  obtain ⟨V, hV⟩ : ∃ V, (w1.alloc (.cells (itC ⟨tok, ver, zone, warm⟩) 45)).alloc (.cells (kpC ⟨id, t, ver, zone, 1, now, false, false⟩) 47) = V := ⟨_, rfl⟩
  rw [hV] at hbV v0 v1
  refine wpV (fun V2 hV2 => ?_)
  obtain rfl : V = V2 := hV.symm.trans hV2
  clear hV hV2 x0 x1 x2 x3 c18
  have HV := Lib.hid (H1.out.under hbV)
  have HSV := Lib.hid (HS1.out.trans (Stp.of_below hbV HB1.out))
  have HK := Lib.hid v1
  have HNm := Lib.hid (show ∀ k, w1.heap.size ≤ k → (Value.slice a.C p.cf.ms.length a.e).ownBlock ≠ some k ∧ (Value.slice a.A p.its.length a.c).ownBlock ≠ some k ∧ (Value.slice a.B p.kps.length a.d).ownBlock ≠ some k from fun k hk => ⟨own_before H1.out.own.ms hk, own_before H1.out.own.its hk, own_before H1.out.own.kps hk⟩)
  have HLt := Lib.hid H1.out.lt
  have e3 := v0.cell 3
  simp only [List.getElem?_toArray, List.getElem?_cons_zero, List.getElem?_cons_succ] at e3
  have hwi : IntKind.i64.wrap ((i : Int) + 1) = (i : Int) + 1 := by rw [IntKind.wrap_i64]; omega
  clear hbV v0 v1
  cases warm with
  | false =>
    obtain ⟨c0, c1, c2, c3, c4, c5, c6, c7, c8, c9, c10, c11, c12, c13, c14, c15, c16, c17, c18, c19, c20, c21, c22, c23, c24, c25, c26⟩ := cells27 HV.out.box
    go_wp2_with fail
    refine (delI_any a.A p.its.length a.c i p.its base V HV.out.own.its rfl hil hn).mono ?_
    rintro e w3 ⟨rfl, ho, hg⟩
    rw [HD.out] at ho
    have hln : (dropI t p.its).length = p.its.length - 1 := by
      rw [← HD.out, List.length_append, List.length_take, List.length_drop]; omega
    have hbx := HV.out.box.grown hg (Ne.symm (own_apart_F (by decide) HV.out.own.its HV.out.box))
    have hkx := HK.out.grown hg (Ne.symm (HNm.out (w1.heap.size + 1) (Nat.le_succ _)).2.1)
    have f18 := hbx.frozen 18
    have z18 := hbx.cell 18
    simp only [List.getElem?_toArray, List.getElem?_cons_zero, List.getElem?_cons_succ] at z18
    have h4 := HV.out.its hg (l := dropI t p.its) (A' := a.A) (c' := a.c) (by rw [hln]; exact ho)
    rw [hln] at h4
    have k4 := (Only.set w3 g 18 (.slice a.A (p.its.length - 1) a.c)).far hkx (by have := HLt.out; omega)
    have s4 := (HSV.out.trans (Stp.own HV.out.own.its (by decide) (Nat.le_trans HBase.out HSV.out.size) hg)).trans (Stp.set hbx (by decide) HV.out.ge 18 (.slice a.A (p.its.length - 1) a.c))
    clear c0 c1 c2 c3 c4 c5 c6 c7 c8 c9 c10 c11 c12 c13 c14 c15 c16 c17 c18 c19 c20 c21 c22 c23 c24 c25 c26 ho hg hln hbx hkx e3
    go_upto_region 6 with fail
    obtain ⟨W4, hW4⟩ : ∃ W4, w3.setCell ⟨g, 18, none⟩ (.slice a.A (p.its.length - 1) a.c) = W4 := ⟨_, rfl⟩
    rw [hW4] at h4 k4 s4
    refine wpV (fun W5 hW5 => ?_)
    obtain rfl : W4 = W5 := hW4.symm.trans hW5
    clear hW4 hW5 f18 z18
    obtain ⟨d0, d1, d2, d3, d4, d5, d6, d7⟩ := cells8 k4
    have H4 := Lib.hid h4
    have HS4 := Lib.hid s4
    clear h4 s4 k4
    go_wp2_with fail
    refine (keepP_any _ _ (⟨id, t, ver, zone, 1, now, false, false⟩ : Kp) base g W4 H4.out hk).mono ?_
    rintro e w6 ⟨rfl, hs6, a6, h6⟩
    have hs := HS4.out.trans hs6
    have HS6 := Lib.hid hs
    have H6 := Lib.hid h6
    obtain ⟨c0, c1, c2, c3, c4, c5, c6, c7, c8, c9, c10, c11, c12, c13, c14, c15, c16, c17, c18, c19, c20, c21, c22, c23, c24, c25, c26⟩ := cells27 h6.box
    clear h6 hs hs6 d0 d1 d2 d3 d4 d5 d6 d7 c0 c1 c2 c3 c4 c5 c6 c7 c8 c9 c10 c11 c12 c13 c14 c15 c16 c17 c18 c19 c21 c22 c23 c24 c25
    by_cases hst : p.rf.st = 1
    · have hst' : (p.rf.st == 1) = true := by simp [hst]
      have f26 := H6.out.box.frozen 26
      have hp := H6.out.set (p' := madeP p t id now ⟨tok, ver, zone, false⟩) 26 (.int .i64 0) (by simp [madeP, hst]) rfl rfl rfl
      have HP := Lib.hid hp
      clear hp hst
      go_wp2_with fail
      go_end0
      exact ⟨rfl, HS6.out.trans (Stp.set H6.out.box (by decide) H6.out.ge _ _), _, HP.out⟩
    · have hst' : (p.rf.st == 1) = false := by simp [hst]
      have HP := Lib.hid (show BrIn base g w6 (madeP p t id now ⟨tok, ver, zone, false⟩) a6 from by
        have := H6.out
        simp only [madeP, hst, if_false]
        exact this)
      clear hst
      go_wp2_with fail
      go_end0
      exact ⟨rfl, HS6.out, _, HP.out⟩
  | true =>
    have f4 := HK.out.frozen 4
    have z4 := HK.out.cell 4
    simp only [List.getElem?_toArray, List.getElem?_cons_zero, List.getElem?_cons_succ] at z4
    have hN := HNm.out (w1.heap.size + 1) (Nat.le_succ _)
    have h2 := HV.out.far (b := w1.heap.size + 1) (by have := HLt.out; omega) hN.1 hN.2.1 hN.2.2 4 (.int .u8 9)
    have k2 : Whole (V.setCell ⟨w1.heap.size + 1, 4, none⟩ (.int .u8 9)) (w1.heap.size + 1) 47 (kpC ⟨id, t, ver, zone, 9, now, false, false⟩) := HK.out.set 4 (.int .u8 9)
    have s2 := HSV.out.trans (Stp.set HK.out (by decide) (Nat.le_succ_of_le HB1.out) 4 (.int .u8 9))
    go_upto_region 5 with fail
    obtain ⟨V2, hV2⟩ : ∃ V2, V.setCell ⟨w1.heap.size + 1, 4, none⟩ (.int .u8 9) = V2 := ⟨_, rfl⟩
    rw [hV2] at h2 k2 s2
    refine wpV (fun V3 hV3 => ?_)
    obtain rfl : V2 = V3 := hV2.symm.trans hV3
    clear hV2 hV3 f4 z4 hN e3
    have HV2 := Lib.hid h2
    have HK2 := Lib.hid k2
    have HSV2 := Lib.hid s2
    clear h2 k2 s2
    obtain ⟨c0, c1, c2, c3, c4, c5, c6, c7, c8, c9, c10, c11, c12, c13, c14, c15, c16, c17, c18, c19, c20, c21, c22, c23, c24, c25, c26⟩ := cells27 HV2.out.box
    go_wp2_with fail
    refine (delI_any a.A p.its.length a.c i p.its base V2 HV2.out.own.its rfl hil hn).mono ?_
    rintro e w3 ⟨rfl, ho, hg⟩
    rw [HD.out] at ho
    have hln : (dropI t p.its).length = p.its.length - 1 := by
      rw [← HD.out, List.length_append, List.length_take, List.length_drop]; omega
    have hbx := HV2.out.box.grown hg (Ne.symm (own_apart_F (by decide) HV2.out.own.its HV2.out.box))
    have hkx := HK2.out.grown hg (Ne.symm (HNm.out (w1.heap.size + 1) (Nat.le_succ _)).2.1)
    have f18 := hbx.frozen 18
    have z18 := hbx.cell 18
    simp only [List.getElem?_toArray, List.getElem?_cons_zero, List.getElem?_cons_succ] at z18
    have h4 := HV2.out.its hg (l := dropI t p.its) (A' := a.A) (c' := a.c) (by rw [hln]; exact ho)
    rw [hln] at h4
    have k4 := (Only.set w3 g 18 (.slice a.A (p.its.length - 1) a.c)).far hkx (by have := HLt.out; omega)
    have s4 := (HSV2.out.trans (Stp.own HV2.out.own.its (by decide) (Nat.le_trans HBase.out HSV2.out.size) hg)).trans (Stp.set hbx (by decide) HV2.out.ge 18 (.slice a.A (p.its.length - 1) a.c))
    clear c0 c1 c2 c3 c4 c5 c6 c7 c8 c9 c10 c11 c12 c13 c14 c15 c16 c17 c18 c19 c20 c21 c22 c23 c24 c25 c26 ho hg hln hbx hkx
    go_upto_region 6 with fail
    obtain ⟨W4, hW4⟩ : ∃ W4, w3.setCell ⟨g, 18, none⟩ (.slice a.A (p.its.length - 1) a.c) = W4 := ⟨_, rfl⟩
    rw [hW4] at h4 k4 s4
    refine wpV (fun W5 hW5 => ?_)
    obtain rfl : W4 = W5 := hW4.symm.trans hW5
    clear hW4 hW5 f18 z18
    obtain ⟨d0, d1, d2, d3, d4, d5, d6, d7⟩ := cells8 k4
    have H4 := Lib.hid h4
    have HS4 := Lib.hid s4
    clear h4 s4 k4
    go_wp2_with fail
    refine (keepP_any _ _ (⟨id, t, ver, zone, 9, now, false, false⟩ : Kp) base g W4 H4.out hk).mono ?_
    rintro e w6 ⟨rfl, hs6, a6, h6⟩
    have hs := HS4.out.trans hs6
    have HS6 := Lib.hid hs
    have H6 := Lib.hid h6
    obtain ⟨c0, c1, c2, c3, c4, c5, c6, c7, c8, c9, c10, c11, c12, c13, c14, c15, c16, c17, c18, c19, c20, c21, c22, c23, c24, c25, c26⟩ := cells27 h6.box
    clear h6 hs hs6 d0 d1 d2 d3 d4 d5 d6 d7 c0 c1 c2 c3 c4 c5 c6 c7 c8 c9 c10 c11 c12 c13 c14 c15 c16 c17 c18 c19 c21 c22 c23 c24 c25
    by_cases hst : p.rf.st = 1
    · have hst' : (p.rf.st == 1) = true := by simp [hst]
      have f26 := H6.out.box.frozen 26
      have hp := H6.out.set (p' := madeP p t id now ⟨tok, ver, zone, true⟩) 26 (.int .i64 0) (by simp [madeP, hst]) rfl rfl rfl
      have HP := Lib.hid hp
      clear hp hst
      go_wp2_with fail
      go_end0
      exact ⟨rfl, HS6.out.trans (Stp.set H6.out.box (by decide) H6.out.ge _ _), _, HP.out⟩
    · have hst' : (p.rf.st == 1) = false := by simp [hst]
      have HP := Lib.hid (show BrIn base g w6 (madeP p t id now ⟨tok, ver, zone, true⟩) a6 from by
        have := H6.out
        simp only [madeP, hst, if_false]
        exact this)
      clear hst
      go_wp2_with fail
      go_end0
      exact ⟨rfl, HS6.out, _, HP.out⟩

end Go.Proofs.YtdaimejlcfhfiaaGreatDoor
