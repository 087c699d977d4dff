/-
  The walks of 'frames' of package frame and of the iterator that it hands back: frame by frame. Conditions: those that each theorem names.
-/
import Derived.Test.YtocleikdabclkaaFrTake
namespace Go.Proofs.Ytocleikdabclkaa
open Go.RowKit Go.Shelf
attribute [local go_sem] Oper.semAt_some

/-- A frame that is handed over: its payload's slice, and what that reads as. -/
structure Fr where
  A : Option Addr
  c : Nat
  p : List Nat
structure FrOkAt (w0 : World) (n₀ : Nat) (x : Fr) : Prop where
  rd : Rd w0 n₀ x.A x.p.length (bv x.p)
  many : x.p.length ≤ 4000
abbrev FrAt (w0 : World) (n₀ : Nat) := { x : Fr // FrOkAt w0 n₀ x }
def Fr.val (x : Fr) : Value := .agg #[.slice x.A x.p.length x.c, .int .i64 (frLen x.p.length : Int)]
def pays {w0 : World} {n₀ : Nat} (l : List (FrAt w0 n₀)) : List (List Nat) := l.map fun x => x.1.p
theorem pays_snoc {w0 : World} {n₀ : Nat} (l : List (FrAt w0 n₀)) (x : FrAt w0 n₀) : pays (l ++ [x]) = pays l ++ [x.1.p] := by simp [pays]

set_option maxHeartbeats 400000 in
theorem frames_any (A : Option Addr) (n c : Nat) (w : World) :
    Calls Try.prog 28 #[.slice A n c] w fun e w' => e = .returned (.func (.func 37) #[] #[.pointer (some ⟨w.heap.size, 0, none⟩)]) ∧ w' = w.alloc (.cells #[.slice A n c] 22) := by
  go_enter Try.func28, Try.ntmps28
  go_wp2
  go_ret
  exact ⟨rfl, rfl⟩

/-- Where the iterator stands: what has been handed over, what is still to come, where it goes on. -/
structure FramesInv (w0 : World) (n₀ Bs : Nat) (A : Option Addr) (n c : Nat) (L : List (List Nat)) (used : Nat) (J : List (FrAt w0 n₀) → World → Prop) (pre : List (FrAt w0 n₀)) (at_ : Nat) (W : World) : Prop where
  rest : ∃ rest, pays pre ++ rest = L
  here : at_ = ((pays pre).flatMap fr).length
  le : at_ ≤ n
  box : W.cell? ⟨Bs, 0, none⟩ = some (.slice A n c)
  below : Below n₀ w0 W
  inv : J pre W

def FramesAt (l : Nat) (w0 : World) (n₀ Bs : Nat) (A : Option Addr) (n c : Nat) (L : List (List Nat)) (used : Nat) (J : List (FrAt w0 n₀) → World → Prop) (W0 : World) (a' : Act) (w' : World) : Prop :=
  W0.heap.size ≤ w'.heap.size ∧ ∃ (pre : List (FrAt w0 n₀)) (at_ : Nat) (u4 u5 u6 u7 u8 u9 u10 u11 u12 u13 u14 u15 u16 u17 u18 u19 u20 : Value), a' = { tmps := #[.func (.yield l) #[] #[], .pointer (some ⟨Bs, 0, none⟩), undef, .int .i64 (at_ : Int), u4, u5, u6, u7, u8, u9, u10, u11, u12, u13, u14, u15, u16, u17, u18, u19, u20], defers := [] } ∧ FramesInv w0 n₀ Bs A n c L used J pre at_ w'

set_option maxRecDepth 100000 in
set_option maxHeartbeats 1000000 in
theorem frames1_in (m l Bs n₀ : Nat) (w0 : World) (A : Option Addr) (n c : Nat) (bs : List Nat) (L : List (List Nat)) (used : Nat) (hn : n ≤ 1000000) (hc : n ≤ c) (hb : ∀ x ∈ bs, x < 256) (hall : AllIs bs L used) (hr : Rd w0 n₀ A n (bv bs)) (J Jx : List (FrAt w0 n₀) → World → Prop)
    (W0 : World) (hJ : AbidesFrom W0.heap.size J)
    (hY : ∀ pre x W, J pre W → (pays (pre ++ [x])) <+: L → YieldAt Fence.wide (m - 1) Try.prog l #[x.1.val] W fun e W' =>
      (e = .returned (.bool true) ∧ J (pre ++ [x]) W' ∧ KpB n₀ Bs W W') ∨ (e = .returned (.bool false) ∧ Jx (pre ++ [x]) W'))
    (hBs : W0.cell? ⟨Bs, 0, none⟩ = some (.slice A n c)) (hBsl : Bs < W0.heap.size) (hn₀ : n₀ ≤ W0.heap.size) (hb0 : Below n₀ w0 W0) (h0 : J [] W0) :
    CallsIn Fence.wide m Try.prog 37 #[.func (.yield l) #[] #[], .pointer (some ⟨Bs, 0, none⟩)] W0 fun e W' => (∃ v, e = .returned v) ∧
      ((∃ ys, pays ys = L ∧ J ys W') ∨ (∃ pre, pays pre <+: L ∧ Jx pre W')) := by
  have HY := Lib.hid hY
  have HJ := Lib.hid hJ
  have Hb := Lib.hid hb
  have HR := Lib.hid hr
  have hl : bs.length = n := by have := hr.1; rwa [bv_length] at this
  have HL := Lib.hid hl
  have HAll := Lib.hid hall
  have H0 : Hid (FramesInv w0 n₀ Bs A n c L used J [] 0 W0) := ⟨⟨L, by simp [pays]⟩, rfl, Nat.zero_le _, hBs, hb0, h0⟩
  have Hs := Lib.hid (show Bs < W0.heap.size from hBsl)
  have Hn := Lib.hid hn₀
  clear hY hJ hb hr h0 hBs hn₀ hBsl hl hall hb0
  refine callsIn_of_wp Try.func37 rfl trivial ?_ rfl
  simp only [Try.ntmps37, List.size_toArray, List.length_cons, List.length_nil, Nat.reduceAdd, Nat.reduceSub, Array.replicate_succ, Array.replicate_zero, List.push_toArray, List.append_toArray, List.nil_append, List.cons_append]
  gi_wp2_with fail
  refine wpIn_wide.2 (wp_scope_back_behind 0 (FramesAt l w0 n₀ Bs A n c L used J W0)
    (fun a' _ => n - (intOf (a'.tmps.getD 3 undef)).toNat) rfl ?ahead (fun a' w' hJ' => wpIn_wide (n := m).1 ?pass))
  case ahead =>
    go_wp2_with fail
    exact ⟨Nat.le_refl _, [], 0, _, _, _, _, _, _, _, _, _, _, _, _, _, _, _, _, _, rfl, H0.out⟩
  case pass =>
    obtain ⟨hsz, pre, at_, u4, u5, u6, u7, u8, u9, u10, u11, u12, u13, u14, u15, u16, u17, u18, u19, u20, rfl, hI⟩ := hJ'
    have hat := hI.le
    have hBox := hI.box
    obtain ⟨rest, hrest⟩ := hI.rest
    have HI := Lib.hid hI
    clear hI
    obtain ⟨A', hA1, hA2⟩ := run_rest A n c at_ hat
    have hrd : Rd w' n₀ A' (n - at_) (bv (bs.drop at_)) := by
      have h2 := (HR.out.below HI.out.below).cut hat A' (fun hk => hA2 ⟨hk, hc⟩)
      rwa [bv, ← List.map_drop] at h2
    have hnn : n₀ ≤ w'.heap.size := by have := Hn.out; omega
    have hbb : ∀ x ∈ bs.drop at_, x < 256 := fun x hx => Hb.out x (List.mem_of_mem_drop hx)
    cases rest with
    | nil =>
      rw [List.append_nil] at hrest
      have hno : ∀ p, ¬ IsFr (bs.drop at_) p := by
        have h1 := HAll.out.2.2.2
        rw [HI.out.here, hrest, ← HAll.out.2.1]; exact h1
      have Hf := Lib.hid (frFirst_no hno hrd hnn hbb (by omega) (by omega : n - at_ ≤ c - at_))
      have HP := Lib.hid hrest
      clear hno hrd hbb hrest hA2
      gi_wp2_with fail
      refine ⟨trivial, fun h => (by cases h), (callsIn_wide.2 Hf.out).mono ?_⟩
      rintro e w1 ⟨rfl, hb1⟩
      have hJ2 : J pre (w1.alloc (.cells #[.slice none 0 0, .int .i64 0] 48)) := by
        have hb2 := hb1.alloc hb1.size (.cells #[.slice none 0 0, .int .i64 0] 48)
        exact HJ.out pre w' _ none HI.out.inv ⟨hb2.os, hb2.tape, hb2.output, hb2.size, fun i hi _ => hb2.block i hi⟩ (fun r e => by cases e)
      have HJ2 := Lib.hid hJ2
      have X1 := Lib.hid (Whole.new w1 48 #[.slice none 0 0, .int .i64 0])
      have x1 := X1.out.cell 1
      simp only [List.getElem?_toArray, List.getElem?_cons_zero, List.getElem?_cons_succ] at x1
      clear hJ2 hb1 Hf
      gi_wp2_with fail
      refine ⟨fun _ h => (by cases h), ?_⟩
      gi_wp2_with fail
      simp only [Exit.jump]
      go_end0
      exact ⟨⟨_, rfl⟩, .inl ⟨pre, HP.out, HJ2.out⟩⟩
    | cons p rest =>
      have hp : IsFr (bs.drop at_) p := by
        have h1 := HAll.out
        rw [← hrest] at h1
        have h2 := h1.next
        rwa [← HI.out.here] at h2
      have hple := hp.le
      have hp4 := hp.1
      rw [List.length_drop, HL.out] at hple
      have Hf := Lib.hid (frFirst_yes hp hrd hnn hbb (by omega) (by omega : n - at_ ≤ c - at_))
      have HP := Lib.hid hrest
      clear hp hrd hbb hrest hA2
      have hF5 := frLen_pos p.length
      gi_wp2_with fail
      refine ⟨trivial, fun h => (by cases h), (callsIn_wide.2 Hf.out).mono ?_⟩
      rintro e w1 ⟨A1, c1, rfl, hr1, hb1⟩
      have hrw0 : Rd w0 n₀ A1 p.length (bv p) := hr1.keep fun q hq => (HI.out.below.cell hq).symm
      obtain ⟨x, hx⟩ : ∃ x : FrAt w0 n₀, x.1 = ⟨A1, c1, p⟩ := ⟨⟨⟨A1, c1, p⟩, ⟨hrw0, hp4⟩⟩, rfl⟩
      have hb2 := hb1.alloc hb1.size (.cells #[.slice A1 p.length c1, .int .i64 (frLen p.length : Int)] 48)
      have hJ2 : J pre (w1.alloc (.cells #[.slice A1 p.length c1, .int .i64 (frLen p.length : Int)] 48)) :=
        HJ.out pre w' _ none HI.out.inv ⟨hb2.os, hb2.tape, hb2.output, hb2.size, fun i hi _ => hb2.block i hi⟩ (fun r e => by cases e)
      obtain ⟨F, hF⟩ : ∃ F, frLen p.length = F := ⟨_, rfl⟩
      have hpp : pays (pre ++ [x]) = pays pre ++ [p] := by rw [pays_snoc, hx]
      obtain ⟨fn, tmps, assign, body, hy, hRR⟩ := HY.out pre x _ hJ2 (by rw [hpp, ← HP.out]; exact ⟨rest, by simp⟩)
      rw [hx] at hy
      dsimp only [Fr.val] at hy
      have hhere : at_ + F = ((pays (pre ++ [x])).flatMap fr).length := by rw [hpp, List.flatMap_append, List.length_append, ← HI.out.here, List.flatMap_singleton, fr_length, hF]
      rw [hF] at hy hb2 hJ2 hple hF5 hRR ⊢
      have X1 := Lib.hid (Whole.new w1 48 #[.slice A1 p.length c1, .int .i64 (F : Int)])
      have x0 := X1.out.cell 0
      have x1 := X1.out.cell 1
      simp only [List.getElem?_toArray, List.getElem?_cons_zero, List.getElem?_cons_succ] at x0 x1
      have HRR := Lib.hid hRR
      have HB2 := Lib.hid hb2
      have HPP := Lib.hid hpp
      have HHere := Lib.hid hhere
      clear hRR hb2 hJ2 hb1 hr1 hrw0 hpp hhere hx hF Hf X1
      have hFi : (0 : Int) < (F : Int) := by omega
      have hFin : (F : Int) ≤ 1000000 := by omega
      gi_wp2_with fail
      clear hy x0 x1
      refine ⟨fun h => (by cases h), HRR.out.mono ?_⟩
      rintro e W3 (⟨rfl, hJ3, hk3⟩ | ⟨rfl, hJx3⟩)
      · have HJ3 := Lib.hid hJ3
        have HK3 := Lib.hid hk3
        clear hJ3 hk3
        gi_wp2_with fail
        refine wpIn_goto ?_
        have hs2 := HB2.out.size
        have hs3 := HK3.out.1.size
        have hBs' : Bs < w'.heap.size := by have := Hs.out; omega
        have hb3 : W3.cell? ⟨Bs, 0, none⟩ = some (.slice A n c) := ((World.cell?_of_block (a := ⟨Bs, 0, none⟩) HK3.out.2).trans (HB2.out.cell (p := ⟨Bs, 0, none⟩) hBs')).trans HI.out.box
        have hbel : Below n₀ w0 W3 := (HI.out.below.trans (HB2.out.mono hnn)).trans HK3.out.1
        have hs4 : W0.heap.size ≤ W3.heap.size := by
          omega
        refine ⟨rfl, ⟨hs4, pre ++ [x], at_ + F, _, _, _, _, _, _, _, _, _, _, _, _, _, _, _, _, _, rfl, ⟨⟨rest, by rw [HPP.out, ← HP.out]; simp⟩, HHere.out, by omega, hb3, hbel, HJ3.out⟩⟩, ?_⟩
        simp [intOf]; omega
      · have HJx := Lib.hid hJx3
        clear hJx3
        gi_wp2_with fail
        simp only [Exit.jump]
        go_end0
        exact ⟨⟨_, rfl⟩, .inr ⟨pre ++ [x], by rw [HPP.out, ← HP.out]; exact ⟨rest, by simp⟩, HJx.out⟩⟩

/-- The iterator hands over the frames, one by one. -/
theorem frames_stops (m Bs n₀ : Nat) (w0 : World) (A : Option Addr) (n c : Nat) (bs : List Nat) (L : List (List Nat)) (used : Nat) (hn : n ≤ 1000000) (hc : n ≤ c) (hb : ∀ x ∈ bs, x < 256) (hall : AllIs bs L used) (hr : Rd w0 n₀ A n (bv bs)) (w : World) (hBl : Bs < w.heap.size) (hn₀ : n₀ ≤ w.heap.size) (hb0 : Below n₀ w0 w)
    (hBn : w.cell? ⟨Bs, 0, none⟩ = some (.slice A n c)) :
    SeqStopsK Fence.wide m Try.prog 37 #[.pointer (some ⟨Bs, 0, none⟩)] (fun x : FrAt w0 n₀ => #[x.1.val]) (KpB n₀ Bs) (fun ys => pays ys = L) (fun pre => pays pre <+: L) L.length w := fun l J Jx W hW hJ _ hY h0 =>
  frames1_in m l Bs n₀ w0 A n c bs L used hn hc hb hall hr J Jx W hJ (fun pre x W' h1 h2 => hY pre x W' h1 (by
    have h3 := h2.length_le
    rw [pays_snoc, List.length_append] at h3
    simp only [pays, List.length_map, List.length_singleton] at h3
    omega)) ((hW.cell (p := ⟨Bs, 0, none⟩) hBl).trans hBn) (by have := hW.size; omega) (by have := hW.size; omega) (hb0.trans (hW.mono hn₀)) h0

end Go.Proofs.Ytocleikdabclkaa
