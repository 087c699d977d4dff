/-
  The closure of 'write' of package disk, as a change of a disk: it puts bytes behind the disk's, if there is room for all. Conditions: those that each theorem names.
-/
import Derived.Test.YtekffkoggnbgeaaDiskApp
namespace Go.Proofs.Ytekffkoggnbgeaa
open Go.RowKit Go.Shelf
attribute [local go_sem] Oper.semAt_some

def plusD (b : List Nat) (D : Dk) : Dk := ⟨D.bs ++ b, D.syn, D.room⟩
def writeD (b : List Nat) (D : Dk) : Option Dk := if D.bs.length + b.length ≤ D.room then some (plusD b D) else none
theorem plus_ok {b : List Nat} {D : Dk} (h : D.Ok) (hb : ∀ x ∈ b, x < 256) (hl : D.bs.length + b.length ≤ D.room) : (plusD b D).Ok :=
  ⟨by simp only [plusD, List.length_append]; have := h.syn; omega, by simp only [plusD, List.length_append]; exact hl, h.room, fun x hx => by
    simp only [plusD, List.mem_append] at hx
    exact hx.elim (h.byte x) (hb x)⟩

/-- What holds between two rounds. -/
structure WriteAt (base Bo : Nat) (W : World) (D : Dk) (A : Option Addr) (n c : Nat) (pre : List (PrtAt W base)) (W1 : World) : Prop where
  box : DiskBox base W1 Bo (plusD (joined pre) D)
  two : Whole W1 W.heap.size 50 #[.pointer (some ⟨Bo, 0, none⟩)]
  three : Whole W1 (W.heap.size + 1) 4 #[.bool false]
  bn : Whole W1 (W.heap.size + 1 + 1) 22 #[.slice A n c]
  below : Below base W W1
theorem writeAt_own (base Bo : Nat) (W : World) (D : Dk) (A : Option Addr) (n c : Nat) (B : Nat) (hB : base ≤ B) (hb0 : base ≤ W.heap.size) : OwnFrom B (WriteAt base Bo W D A n c) := by
  intro pre W1 W2 row h hg hr
  have hr' : ∀ r, row = some r → ∃ o : Obj, W1.heap[r]? = some o ∧ o.isCells = false := fun r e => (hr r e).2
  obtain ⟨A3, c3, h1, h2, h3⟩ := h.box
  exact ⟨⟨A3, c3, h1.turn hg hr', own_turn h2 hg hr', h3⟩, h.two.turn hg hr', h.three.turn hg hr', h.bn.turn hg hr', h.below.grown hg (by have := h.below.size; omega) (fun k e => by have := (hr k e).1; omega)⟩

/-- Where one has left: there was no room. -/
structure WriteOut (base : Nat) (W : World) (D : Dk) (pre : List (PrtAt W base)) (W1 : World) : Prop where
  out : D.room < D.bs.length + (joined pre).length
  three : Whole W1 (W.heap.size + 1) 4 #[.bool false]
  below : Below base W W1
theorem writeOut_own (base : Nat) (W : World) (D : Dk) (B : Nat) (hB : base ≤ B) (hb0 : base ≤ W.heap.size) : OwnFrom B (WriteOut base W D) := by
  intro pre W1 W2 row h hg hr
  have hr' : ∀ r, row = some r → ∃ o : Obj, W1.heap[r]? = some o ∧ o.isCells = false := fun r e => (hr r e).2
  exact ⟨h.out, h.three.turn hg hr', h.below.grown hg (by have := h.below.size; omega) (fun k e => by have := (hr k e).1; omega)⟩

set_option maxRecDepth 100000 in
set_option maxHeartbeats 1000000 in
theorem write_chg (base : Nat) (w0 : World) (Bn : Nat) (A : Option Addr) (n c : Nat) (bs : List Nat) (hBn : Bn < base) (hc0 : w0.cell? ⟨Bn, 0, none⟩ = some (.slice A n c)) (hr0 : Rd w0 base A n (bv bs)) (hby : ∀ x ∈ bs, x < 256) (hn : n ≤ 100000) (hc : n ≤ c) (hcm : c ≤ maxLen) :
    ChgOk base w0 ⟨34, #[.pointer (some ⟨Bn, 0, none⟩)], writeD bs⟩ := by
  refine ⟨enters_of Try.func34 (by kernel_rfl) rfl, ?_⟩
  rintro W Bo D hb hbo hbox
  have hnc := (hb.cell (p := ⟨Bn, 0, none⟩) hBn).trans hc0
  have hrW := hr0.below hb
  have hbW : base ≤ W.heap.size := by obtain ⟨_, _, hw, _⟩ := hbox; have := hw.lt; omega
  have hBoW : Bo < W.heap.size := by obtain ⟨_, _, hw, _⟩ := hbox; exact hw.lt
  have hok : D.Ok := by obtain ⟨_, _, _, _, h⟩ := hbox; exact h
  have hbl : bs.length = n := by have := hr0.1; rwa [bv_length] at this
  have HRW := Lib.hid hrW
  have HK := Lib.hid hok
  have HBy := Lib.hid hby
  have HBL := Lib.hid hbl
  have HBox := Lib.hid hbox
  have hnc2 : ((W.alloc (.cells #[.pointer (some ⟨Bo, 0, none⟩)] 50)).alloc (.cells #[.bool false] 4)).cell? ⟨Bn, 0, none⟩ = some (.slice A n c) := (((Below.refl W.heap.size W).alloc (Nat.le_refl _) _).alloc (by simp) _).cell (p := ⟨Bn, 0, none⟩) (by simp; omega) |>.trans hnc
  clear hb hr0 hrW hok hby hbl hbox hc0
  show Calls Try.prog 34 #[.pointer (some ⟨Bo, 0, none⟩), .pointer (some ⟨Bn, 0, none⟩)] W _
  refine (callsIn_wide (n := 5)).1 ?_
  refine callsIn_of_wp_marks Try.func34 rfl trivial ?_ rfl
  simp only [Try.ntmps34, List.size_toArray, List.length_cons, List.length_nil, Nat.reduceAdd, Nat.reduceSub, Array.replicate_succ, Array.replicate_zero, List.push_toArray, List.append_toArray, List.nil_append, List.cons_append]
  gi_wp2_with (refine ⟨trivial, ?_⟩; gi_at_call 35; refine (callsIn_wide.2 (parts_any _ _ _ _)).mono ?_; rintro e w2 ⟨rfl, rfl⟩)
  obtain ⟨W0, hW0⟩ : ∃ W0, ((W.alloc (.cells #[.pointer (some ⟨Bo, 0, none⟩)] 50)).alloc (.cells #[.bool false] 4)).alloc (.cells #[.slice A n c] 22) = W0 := ⟨_, rfl⟩
  have hs0 : W0.heap.size = W.heap.size + 1 + 1 + 1 := by rw [← hW0]; simp
  have hb0 : Below base W W0 := by rw [← hW0]; exact (((Below.refl _ W).alloc hbW _).alloc (by simp; omega) _).alloc (by simp; omega) _
  have hinv : WriteAt base Bo W D A n c [] W0 := by
    obtain ⟨A3, c3, h1, h2, h3⟩ := HBox.out
    refine ⟨⟨A3, c3, ?_, ?_, ?_⟩, ?_, ?_, ?_, hb0⟩
    · rw [← hW0]; have := ((h1.alloc (.cells #[.pointer (some ⟨Bo, 0, none⟩)] 50)).alloc (.cells #[.bool false] 4)).alloc (.cells #[.slice A n c] 22); simpa [plusD, joined] using this
    · rw [← hW0]; have := ((h2.alloc (.cells #[.pointer (some ⟨Bo, 0, none⟩)] 50)).alloc (.cells #[.bool false] 4)).alloc (.cells #[.slice A n c] 22); simpa [plusD, joined] using this
    · simpa [plusD, joined] using h3
    · rw [← hW0]; exact ((Whole.new W _ _).alloc _).alloc _
    · rw [← hW0]; have := (Whole.new (W.alloc (.cells #[.pointer (some ⟨Bo, 0, none⟩)] 50)) 4 #[.bool false]).alloc (.cells #[.slice A n c] 22); simpa using this
    · rw [← hW0]; have := Whole.new ((W.alloc (.cells #[.pointer (some ⟨Bo, 0, none⟩)] 50)).alloc (.cells #[.bool false] 4)) 22 #[.slice A n c]; simpa using this
  rw [hW0]
  clear hW0
  refine wpIn_rangeFunc_ownF rfl (by omega) (gf := 38) (lb := #[.pointer (some ⟨W.heap.size + 1 + 1, 0, none⟩)]) rfl trivial (enters_of Try.func38 (by kernel_rfl) rfl)
    (parts_stops 4 (W.heap.size + 1 + 1) base W A n c bs (by omega) hc hcm HBy.out HRW.out W0 (by omega) (by simpa using hinv.bn.cell 0)) (fun h k => kpB_t h k) (kpB_b (by omega) (by omega)) (Below.refl _ _) (fun _ => rfl)
    (WriteAt base Bo W D A n c) (fun k pre W1 => k = .ret ∧ WriteOut base W D pre W1)
    (writeAt_own base Bo W D A n c _ (by omega) hbW) (fun k pre W1 W2 row h hg hr => ⟨h.1, writeOut_own base W D W0.heap.size (by omega) hbW pre W1 W2 row h.2 hg hr⟩) hinv
    (fun x => { tmps := #[.pointer (some ⟨Bo, 0, none⟩), .pointer (some ⟨Bn, 0, none⟩), .pointer (some ⟨W.heap.size, 0, none⟩), .pointer (some ⟨W.heap.size + 1, 0, none⟩), .slice x.1.A x.1.n x.1.c, .slice A n c, .func (.func 38) #[] #[.pointer (some ⟨W.heap.size + 1 + 1, 0, none⟩)], .slice x.1.A x.1.n x.1.c, undef, undef, undef, undef, undef, undef, undef, undef, undef, undef, undef, undef, undef, undef, undef, undef], defers := [] }) ?assign ?body ?done ?stop
  case assign =>
    intro l x W K hK
    gi_wp2
    exact hK
  case body =>
    rintro l pre x W1 hI hlen
    obtain ⟨A3, c3, hx1, hown, hok1⟩ := hI.box
    have hs1 : W.heap.size ≤ W1.heap.size := hI.below.size
    obtain ⟨D1, hD1⟩ : ∃ D1, plusD (joined pre) D = D1 := ⟨_, rfl⟩
    rw [hD1] at hx1 hown hok1
    have hF := free_any A3 D1.bs.length c3 D1.syn D1.room D1.bs W1.heap.size W1 (Rd.of_own hown) (Nat.le_refl _) (own_cap hown) (cnt_self hok1)
    obtain ⟨fr, hfr⟩ : ∃ fr, freeD D1 = fr := ⟨_, rfl⟩
    rw [hfr] at hF
    have t0 := hI.two.cell 0
    have x0 := hx1.cell 0
    have x1 := hx1.cell 1
    have x2 := hx1.cell 2
    simp only [List.getElem?_toArray, List.getElem?_cons_zero, List.getElem?_cons_succ] at t0 x0 x1 x2
    have hdr : D1.room = D.room ∧ D1.bs.length = D.bs.length + (joined pre).length ∧ D1.syn = D.syn := by rw [← hD1]; simp [plusD]
    have hjs : plusD (joined (pre ++ [x])) D = plusD x.1.bs D1 := by rw [← hD1, joined_snoc]; simp [plusD]
    have hjl : (joined (pre ++ [x])).length = (joined pre).length + x.1.n := by
      rw [joined_snoc, List.length_append]
      have h1 := x.2.rd.1
      rw [bv_length] at h1
      omega
    have HF := Lib.hid hF
    have HI := Lib.hid hI
    have HX1 := Lib.hid hx1
    have HOWN := Lib.hid hown
    have HOK1 := Lib.hid hok1
    have HFR := Lib.hid hfr
    have HDR := Lib.hid hdr
    have HJS := Lib.hid hjs
    have HJL := Lib.hid hjl
    clear hF hI hx1 hown hok1 hfr hdr hjs hjl hD1 hlen hnc hnc2
    by_cases hfit : (x.1.n : Int) ≤ fr
    · have d1 : decide (fr < (x.1.n : Int)) = false := by simp; omega
      gi_wp2_with fail
      refine ⟨trivial, (CallsIn.inRound l (callsIn_wide.2 HF.out)).mono ?_⟩
      rintro e w3 ⟨rfl, b3⟩
      have hk3 := keeps_under b3
      have h2 := HI.out.two.under b3
      have h3 := HI.out.three.under b3
      have hn3 := HI.out.bn.under b3
      have ho3 := own_under HOWN.out b3
      have hx3 := HX1.out.under b3
      have hbl3 := HI.out.below.trans (b3.mono (by omega))
      have H2 := Lib.hid h2
      have H3 := Lib.hid h3
      have HN3 := Lib.hid hn3
      have HO3 := Lib.hid ho3
      have HX3 := Lib.hid hx3
      have HBL3 := Lib.hid hbl3
      have HK3 := Lib.hid hk3
      have HB3 := Lib.hid b3
      clear h2 h3 hn3 ho3 hx3 hbl3 hk3 b3 t0 x0 x1 x2
      gi_wp2_with fail
      refine app_region rfl (by kernel_rfl) ⟨_, rfl, rfl, rfl, rfl, rfl, by kernel_rfl⟩ ⟨_, rfl, rfl, rfl, rfl, rfl, by kernel_rfl⟩ ⟨_, rfl, rfl, rfl, rfl, rfl, by kernel_rfl⟩ ⟨_, rfl, rfl, rfl, rfl, rfl, by kernel_rfl⟩ ⟨_, rfl, rfl, rfl, rfl, rfl, by kernel_rfl⟩ ⟨_, rfl, rfl, rfl, rfl, rfl, by kernel_rfl⟩ ⟨_, rfl, rfl, rfl, rfl, rfl, by kernel_rfl⟩ ⟨_, rfl, rfl, rfl, rfl, rfl, by kernel_rfl⟩ ⟨_, rfl, rfl, rfl, rfl, rfl, by kernel_rfl⟩ ⟨_, rfl, rfl, rfl, rfl, rfl, by kernel_rfl⟩ _ ?_ base W.heap.size (W.heap.size + 1) (W.heap.size + 1 + 1) Bo w3 A3 D1.bs.length c3 D1.bs x.1.A x.1.n x.1.c x.1.bs _ _ rfl rfl H2.out H3.out ⟨_, HN3.out⟩ (by have := HBL3.out.size; omega) hbo (by omega) (by omega) (by omega) HO3.out HX3.out (x.2.rd.below HBL3.out) (by have := x.2.many; have := HOK1.out.len; have := HOK1.out.room; omega) ?_
      · intro d hd
        simp only [List.mem_cons, List.not_mem_nil, or_false] at hd
        rcases hd with rfl | rfl | rfl | rfl | rfl | rfl | rfl | rfl | rfl <;> simp
      intro σ w4 A4 c4 hfar hown4 hx4
      have hxl : x.1.bs.length = x.1.n := by have h1 := x.2.rd.1; rwa [bv_length] at h1
      have hlen4 : (D1.bs ++ x.1.bs).length = D1.bs.length + x.1.n := by rw [List.length_append, hxl]
      have hbn4 : Whole w4 (W.heap.size + 1 + 1) 22 #[.slice A n c] := hfar.bn.trans HN3.out
      have hb14 : Below base W1 w4 := (HB3.out.mono (by omega)).trans hfar.below
      refine ⟨HK3.out.trans hfar.keeps, ⟨hb14, ?_⟩, ?_, hfar.two, hfar.three, hbn4, HBL3.out.trans hfar.below⟩
      · exact hbn4.trans HI.out.bn.symm
      · rw [HJS.out]
        refine ⟨A4, c4, ?_, ?_, plus_ok HOK1.out x.2.byte ?_⟩
        · simp only [plusD]; rw [hlen4]; exact hx4
        · simp only [plusD]; rw [hlen4]; exact hown4
        · have h1 := HFR.out
          simp only [freeD] at h1
          rw [hxl]
          omega
    · have d1 : fr < (x.1.n : Int) := by omega
      gi_wp2_with fail
      refine ⟨trivial, (CallsIn.inRound l (callsIn_wide.2 HF.out)).mono ?_⟩
      rintro e w3 ⟨rfl, b3⟩
      have hk3 := keeps_under b3
      have h3 := HI.out.three.under b3
      have hbl3 := HI.out.below.trans (b3.mono (by omega))
      have f3 := h3.frozen 0
      have q3 := h3.cell 0
      simp only [List.getElem?_toArray, List.getElem?_cons_zero] at q3
      have H3 := Lib.hid h3
      have HBL3 := Lib.hid hbl3
      have HK3 := Lib.hid hk3
      clear h3 hbl3 hk3 b3 t0 x0 x1 x2
      gi_wp2_with fail
      refine ⟨HK3.out.trans (KeepsOthers.setCell _ _ _), rfl, ?_, ?_, ?_⟩
      · have h1 := HFR.out
        simp only [freeD] at h1
        obtain ⟨h4, h5, _⟩ := HDR.out
        have h6 := HJL.out
        omega
      · have h7 := H3.out.set 0 (.bool false)
        simpa using h7
      · exact HBL3.out.setCell (p := ⟨W.heap.size + 1, 0, none⟩) (by simp; omega) _
  case done =>
    rintro Dd ys W1 hDd hys hI hK
    have c2 := hI.three.cell 0
    have f2 := hI.three.frozen 0
    simp only [List.getElem?_toArray, List.getElem?_cons_zero] at c2
    have HK2 := Lib.hid hK
    have HI := Lib.hid hI
    have HYS := Lib.hid hys
    clear hK hI hys hnc hnc2
    gi_wp2_with fail
    have hK1 : (W1.setCell ⟨W.heap.size + 1, 0, none⟩ (.bool true)).heap[Dd]? = some (.deferred (some [])) := (KeepsOthers.setCell _ _ _).same Dd _ HK2.out rfl
    have r1 := HI.out.three.set 0 (.bool true)
    have hb : Below base W (W1.setCell ⟨W.heap.size + 1, 0, none⟩ (.bool true)) := HI.out.below.setCell (p := ⟨W.heap.size + 1, 0, none⟩) (by simp; omega) _
    obtain ⟨A3, c3, g1, g2, g3⟩ := HI.out.box
    have g1' := g1.far (p := ⟨W.heap.size + 1, 0, none⟩) (by simp; omega) (.bool true)
    have g2' := ownsRow_setCell_other (a := ⟨W.heap.size + 1, 0, none⟩) g2 (own_apart_of (by decide) g2 HI.out.three) (.bool true)
    obtain ⟨W2, hW2⟩ : ∃ W2, W1.setCell ⟨W.heap.size + 1, 0, none⟩ (.bool true) = W2 := ⟨_, rfl⟩
    rw [hW2] at hK1 r1 hb g1' g2' ⊢
    have hg' := grownBy_putObj' W2 Dd (.deferred none)
    have hr' : ∀ r, (some Dd) = some r → ∃ o : Obj, W2.heap[r]? = some o ∧ o.isCells = false := fun r e => by cases e; exact ⟨_, hK1, rfl⟩
    have q1 := (r1.turn hg' hr').cell 0
    simp at q1
    refine ⟨by simp, .inl ⟨_, _, rfl, run_takeDeferred hK1, ?_⟩⟩
    refine ⟨.bool true, by simp [results, Try.results34, go_sem, q1], ?_, ?_⟩
    · exact hb.trans ((Below.refl _ _).grown hg' (by have := hb.size; omega) (fun k e => by cases e; omega))
    · have hlen := g3.len
      rw [HYS.out] at g1' g2' g3 hlen
      have hle : D.bs.length + bs.length ≤ D.room := by simpa [plusD] using hlen
      have hwd : writeD bs D = some (plusD bs D) := by rw [writeD, if_pos hle]
      rw [hwd]
      exact ⟨rfl, A3, c3, g1'.turn hg' hr', own_turn g2' hg' hr', g3⟩
  case stop =>
    rintro Dd k pre W1 hDd hpre ⟨rfl, hO⟩ hK
    clear hnc hnc2
    gi_wp2_with fail
    have hg' := grownBy_putObj' W1 Dd (.deferred none)
    have hr' : ∀ r, (some Dd) = some r → ∃ o : Obj, W1.heap[r]? = some o ∧ o.isCells = false := fun r e => by cases e; exact ⟨_, hK, rfl⟩
    have q1 := (hO.three.turn hg' hr').cell 0
    simp at q1
    have hwd : writeD bs D = none := by
      obtain ⟨t, ht⟩ := hpre
      have h1 := hO.out
      have h2 : bs.length = (joined pre).length + t.length := by rw [← ht, List.length_append]
      rw [writeD, if_neg (by omega)]
    refine ⟨by simp, .inl ⟨_, _, rfl, run_takeDeferred hK, ?_⟩⟩
    refine ⟨.bool false, by simp [results, Try.results34, go_sem, q1], ?_, ?_⟩
    · exact hO.below.trans ((Below.refl _ _).grown hg' (by have := hO.below.size; omega) (fun k e => by cases e; omega))
    · rw [hwd]

end Go.Proofs.Ytekffkoggnbgeaa
