/-
  The walk of 'changed' of package disk: changes of a disk, one behind the other, whichever they are. Conditions: those that each theorem names.
-/
import Derived.Test.YtekffkoggnbgeaaDiskBase
namespace Go.Proofs.Ytekffkoggnbgeaa
open Go.RowKit Go.Shelf

/-- Block Bo is disk D, whose bytes lie in memory from base on. -/
def DiskBox (base : Nat) (w : World) (Bo : Nat) (D : Dk) : Prop :=
  ∃ A c, Whole w Bo 24 #[.slice A D.bs.length c, .int .i64 D.syn, .int .i64 D.room] ∧ w.ownsRow base 5 1 (.slice A D.bs.length c) D.bs.length (bv D.bs) ∧ D.Ok

/-- What a change answers, and leaves. -/
def ChgPost (base Bo : Nat) (r : Option Dk) (W : World) (e : Ending) (W' : World) : Prop :=
  Below base W W' ∧ match r with
    | none => e = .returned (.bool false)
    | some D => e = .returned (.bool true) ∧ DiskBox base W' Bo D

/-- A change: the value of a function, what it does. -/
structure Chg where
  fn : Nat
  caps : Array Value
  f : Dk → Option Dk
def Chg.val (c : Chg) : Value := .func (.func c.fn) #[] c.caps
structure ChgOk (base : Nat) (w0 : World) (c : Chg) : Prop where
  enters : ∀ args w, (callFunc c.fn args).run Try.prog w = .ok (.enter c.fn args) w
  does : ∀ (W : World) (Bo : Nat) (D : Dk), Below base w0 W → base ≤ Bo → DiskBox base W Bo D → Calls Try.prog c.fn (#[.pointer (some ⟨Bo, 0, none⟩)] ++ c.caps) W (ChgPost base Bo (c.f D) W)

def runs (fs : List Chg) (D : Dk) : Option Dk := fs.foldlM (fun D c => c.f D) D
theorem runs_take {fs : List Chg} {k : Nat} {c : Chg} {D D1 : Dk} (h : fs[k]? = some c) (h1 : runs (fs.take k) D = some D1) : runs (fs.take (k + 1)) D = c.f D1 := by
  have hk : k < fs.length := (List.getElem?_eq_some_iff.1 h).1
  rw [List.getElem?_eq_getElem hk] at h
  unfold runs at *
  rw [List.take_succ_eq_append_getElem hk, List.foldlM_append, h1, Option.some.inj h]
  simp
theorem runs_none {fs : List Chg} {k : Nat} {D : Dk} (h1 : runs (fs.take k) D = none) : runs fs D = none := by
  unfold runs at *
  rw [← List.take_append_drop k fs, List.foldlM_append, h1]
  rfl

/-- A disk and an error's number. -/
def DiskRes (D : Dk) (E : Int) (w : World) (e : Ending) (w' : World) : Prop :=
  ∃ A c, e = .returned (.tuple #[diskV A D.bs.length c D.syn D.room, .int .i64 E]) ∧ w'.ownsRow w.heap.size 5 1 (.slice A D.bs.length c) D.bs.length (bv D.bs) ∧ Below w.heap.size w w'
def ChangedIs (r : Option Dk) (D : Dk) (w : World) (e : Ending) (w' : World) : Prop :=
  match r with
  | some D' => DiskRes D' 0 w e w'
  | none => DiskRes D 30 w e w'

/-- A disk stored into a block of its own. -/
abbrev setDisk (w : World) (b : Nat) (v0 v1 v2 : Value) : World := ((w.setCell ⟨b, 0, none⟩ v0).setCell ⟨b, 1, none⟩ v1).setCell ⟨b, 2, none⟩ v2
theorem Whole.disk {w : World} {b : Nat} {t : TypeId} {x0 x1 x2 : Value} (h : Whole w b t #[x0, x1, x2]) (v0 v1 v2 : Value) : Whole (setDisk w b v0 v1 v2) b t #[v0, v1, v2] := by
  have h1 := ((h.set 0 v0).set 1 v1).set 2 v2
  simpa using h1
theorem Whole.farDisk {w : World} {b b' : Nat} {t : TypeId} {cs : Array Value} (h : Whole w b t cs) (hne : b ≠ b') (v0 v1 v2 : Value) : Whole (setDisk w b' v0 v1 v2) b t cs :=
  ((h.far (p := ⟨b', 0, none⟩) hne v0).far (p := ⟨b', 1, none⟩) hne v1).far (p := ⟨b', 2, none⟩) hne v2
theorem own_setDisk {w : World} {base : Nat} {e : TypeId} {size n : Nat} {v : Value} {xs : List Value} (h : w.ownsRow base e size v n xs) {b : Nat} (hb : b < base) (v0 v1 v2 : Value) : (setDisk w b v0 v1 v2).ownsRow base e size v n xs :=
  own_set (own_set (own_set h hb _) hb _) hb _
theorem below_setDisk {B : Nat} {w w' : World} (h : Below B w w') {b : Nat} (hb : B ≤ b) (v0 v1 v2 : Value) : Below B w (setDisk w' b v0 v1 v2) :=
  ((h.setCell (p := ⟨b, 0, none⟩) hb v0).setCell (p := ⟨b, 1, none⟩) hb v1).setCell (p := ⟨b, 2, none⟩) hb v2

/-- Where the run stands at the label: the disk was full. -/
def FullAt (fs : List Chg) (D0 : Dk) (A : Option Addr) (n c : Nat) (s r : Int) (bl cl : Nat) (w : World) (a' : Act) (w' : World) : Prop :=
  ∃ u3 u5 u6 u7 u8 u9 u10 u11 u12 u13 u14 u15 u16 u17 u18 u19 u20 u21 u22 u23 : Value, a' = { tmps := #[diskV A n c s r, .slice (some ⟨bl, 0, none⟩) fs.length cl, .pointer (some ⟨w.heap.size, 0, none⟩), u3, .pointer (some ⟨w.heap.size + 1, 0, none⟩), u5, u6, u7, u8, u9, u10, u11, u12, u13, u14, u15, u16, u17, u18, u19, u20, u21, u22, u23], defers := [] } ∧
    runs fs D0 = none ∧ Whole w' w.heap.size 24 #[.slice A n c, .int .i64 s, .int .i64 r] ∧ Whole w' (w.heap.size + 1) 24 #[.slice none 0 0, .int .i64 0, .int .i64 0] ∧ Below w.heap.size w w' ∧ w.heap.size + 1 + 1 ≤ w'.heap.size

/-- What has been changed so far. -/
structure RunsAt (fs : List Chg) (D0 : Dk) (base Bo : Nat) (W0 : World) (k : Nat) (W : World) : Prop where
  box : ∃ D, runs (fs.take k) D0 = some D ∧ DiskBox base W Bo D
  below : Below base W0 W

set_option maxRecDepth 100000 in
set_option maxHeartbeats 1000000 in
theorem changed_any (A : Option Addr) (n c : Nat) (s r : Int) (bs : List Nat) (B : Nat) (w : World) (hr : Rd w B A n (bv bs)) (hB : B ≤ w.heap.size) (hc : n ≤ c) (hby : ∀ x ∈ bs, x < 256)
    (fs : List Chg) (bl cl : Nat) (hbl : bl < w.heap.size) (hfs : ∀ k ch, fs[k]? = some ch → w.cell? ⟨bl, k, none⟩ = some ch.val) (hlen : fs.length ≤ 1000)
    (hok : ∀ ch ∈ fs, ChgOk (w.heap.size + 1 + 1) ((w.alloc (diskB A n c s r)).alloc zeroB) ch) :
    Calls Try.prog 27 #[diskV A n c s r, .slice (some ⟨bl, 0, none⟩) fs.length cl] w (ChangedIs (runs fs (cnt bs s r)) (cnt bs s r) w) := by
  obtain ⟨D0, hD0⟩ : ∃ D, cnt bs s r = D := ⟨_, rfl⟩
  have hD0ok : D0.Ok := by rw [← hD0]; exact cnt_ok s r hby
  have HO := Lib.hid (fun (W : World) (hW : Below w.heap.size w W) => own_any A n c s r bs B W (hr.below (hW.mono hB)) (Nat.le_trans hB hW.size) hc)
  rw [hD0] at HO ⊢
  obtain ⟨W0, hW0⟩ : ∃ W, (w.alloc (diskB A n c s r)).alloc zeroB = W := ⟨_, rfl⟩
  rw [hW0] at hok
  have hs0 : W0.heap.size = w.heap.size + 1 + 1 := by rw [← hW0]; simp
  have hb0 : Below w.heap.size w W0 := by rw [← hW0]; exact ((Below.refl _ w).alloc (Nat.le_refl _) _).alloc (by simp) _
  rw [← hs0] at hok
  have HOK := Lib.hid hok
  have HFS := Lib.hid hfs
  have HB0 := Lib.hid hb0
  have HS0 := Lib.hid hs0
  have HD0 := Lib.hid hD0ok
  have hwx : Whole W0 w.heap.size 24 #[.slice A n c, .int .i64 s, .int .i64 r] := by rw [← hW0]; exact (Whole.new w _ _).alloc _
  have hwy : Whole W0 (w.heap.size + 1) 24 #[.slice none 0 0, .int .i64 0, .int .i64 0] := by
    rw [← hW0]; have := Whole.new (w.alloc (diskB A n c s r)) 24 #[.slice none 0 0, .int .i64 0, .int .i64 0]; simpa using this
  have HWX := Lib.hid hwx
  have HWY := Lib.hid hwy
  have HW0 := Lib.hid hW0
  clear hok hfs hb0 hs0 hD0ok hwx hwy hW0 hD0 hr hby
  go_enter Try.func27, Try.ntmps27
  go_wp2_with fail
  refine wp_scope_fwd 0 (FullAt fs D0 A n c s r bl cl w) rfl ?first ?tail
  case tail =>
    rintro a' w' ⟨u3, u5, u6, u7, u8, u9, u10, u11, u12, u13, u14, u15, u16, u17, u18, u19, u20, u21, u22, u23, rfl, hf, hx, hy, hb, hs⟩
    have x0 := hx.cell 0
    have x1 := hx.cell 1
    have x2 := hx.cell 2
    simp only [List.getElem?_toArray, List.getElem?_cons_zero, List.getElem?_cons_succ] at x0 x1 x2
    have HY := Lib.hid hy
    have HB := Lib.hid hb
    have HF := Lib.hid hf
    clear hx hy hb hf
    go_wp2_with fail
    refine (HO.out _ HB.out).mono ?_
    rintro e w2 ⟨A2, c2, rfl, o2, b2⟩
    have hy2 := HY.out.under b2
    have y0 := hy2.frozen 0
    have y1 := hy2.frozen 1
    have y2 := hy2.frozen 2
    have z0 := hy2.cell 0
    have z1 := hy2.cell 1
    have z2 := hy2.cell 2
    simp only [List.getElem?_toArray, List.getElem?_cons_zero, List.getElem?_cons_succ] at z0 z1 z2
    have HY2 := Lib.hid hy2
    have HB2 := Lib.hid (HB.out.trans (b2.mono HB.out.size))
    have O2 := Lib.hid o2
    clear hy2 o2 b2 x0 x1 x2
    go_wp2_with fail
    simp only [Exit.jump]
    have hz := HY2.out.disk (.slice A2 D0.bs.length c2) (.int .i64 D0.syn) (.int .i64 D0.room)
    have p0 := hz.cell 0
    have p1 := hz.cell 1
    have p2 := hz.cell 2
    simp at p0 p1 p2
    rw [HF.out]
    refine bodyPost_ret (v := .tuple #[diskV A2 D0.bs.length c2 D0.syn D0.room, .int .i64 30]) (by simp [results, Try.results27, go_sem, p0, p1, p2]) rfl ⟨A2, c2, rfl, ?_, ?_⟩
    · exact own_weaker (own_setDisk O2.out (b := w.heap.size + 1) (by omega) _ _ _) HB.out.size
    · exact below_setDisk HB2.out (b := w.heap.size + 1) (Nat.le_succ _) _ _ _
  case first =>
    have x0 := HWX.out.cell 0
    have x1 := HWX.out.cell 1
    have x2 := HWX.out.cell 2
    simp only [List.getElem?_toArray, List.getElem?_cons_zero, List.getElem?_cons_succ] at x0 x1 x2
    rw [HW0.out]
    go_wp2_with fail
    refine (HO.out _ HB0.out).mono ?_
    rintro e w2 ⟨A2, c2, rfl, o2, b2⟩
    obtain ⟨W3, hW3⟩ : ∃ W, w2.alloc (diskB A2 D0.bs.length c2 D0.syn D0.room) = W := ⟨_, rfl⟩
    have b3 : Below W0.heap.size W0 W3 := by rw [← hW3]; exact b2.alloc b2.size _
    have hbox : DiskBox W0.heap.size W3 w2.heap.size D0 := by
      rw [← hW3]; exact ⟨A2, c2, Whole.new w2 _ _, o2.alloc _, HD0.out⟩
    have hrun : RunsAt fs D0 W0.heap.size w2.heap.size W0 0 W3 := ⟨⟨D0, rfl, hbox⟩, b3⟩
    have hbo : W0.heap.size ≤ w2.heap.size := b2.size
    have HR := Lib.hid hrun
    clear b3 hbox hrun x0 x1 x2 o2 b2
    go_wp2_with fail
    clear hW3
    go_loopw [13] (fun i wr => ∃ k : Nat, i = .int .i64 (k : Int) ∧ k ≤ fs.length ∧ RunsAt fs D0 W0.heap.size w2.heap.size W0 k wr) (fun i _ => fs.length - (intOf i).toNat)
    case atStart => exact ⟨0, rfl, Nat.zero_le _, HR.out⟩
    case round =>
      obtain ⟨k, rfl, hk, hR⟩ := hrel
      rcases Nat.eq_or_lt_of_le hk with rfl | hlt
      · obtain ⟨⟨D, hD, A3, c3, hwh, hown, hDok⟩, hbel⟩ := hR
        have hs0 := HS0.out
        rw [List.take_length] at hD
        have x0 := hwh.cell 0
        have x1 := hwh.cell 1
        have x2 := hwh.cell 2
        simp only [List.getElem?_toArray, List.getElem?_cons_zero, List.getElem?_cons_succ] at x0 x1 x2
        have hy := HWY.out.below hbel (by omega)
        have y0 := hy.frozen 0
        have y1 := hy.frozen 1
        have y2 := hy.frozen 2
        have z0 := hy.cell 0
        have z1 := hy.cell 1
        have z2 := hy.cell 2
        simp only [List.getElem?_toArray, List.getElem?_cons_zero, List.getElem?_cons_succ] at z0 z1 z2
        have HY := Lib.hid hy
        have HD := Lib.hid hD
        have HOW := Lib.hid hown
        have HBL := Lib.hid (HB0.out.trans (hbel.mono HB0.out.size))
        clear hwh hy hD hown hbel HR
        go_wp2_with fail
        simp only [Exit.jump]
        have hz := HY.out.disk (.slice A3 D.bs.length c3) (.int .i64 D.syn) (.int .i64 D.room)
        have p0 := hz.cell 0
        have p1 := hz.cell 1
        have p2 := hz.cell 2
        simp at p0 p1 p2
        rw [HD.out]
        refine bodyPost_ret (v := .tuple #[diskV A3 D.bs.length c3 D.syn D.room, .int .i64 0]) (by simp [results, Try.results27, go_sem, p0, p1, p2]) rfl ⟨A3, c3, rfl, ?_, ?_⟩
        · exact own_weaker (own_setDisk HOW.out (b := w.heap.size + 1) (by omega) _ _ _) (by omega)
        · exact below_setDisk HBL.out (b := w.heap.size + 1) (Nat.le_succ _) _ _ _
      · obtain ⟨ch, hch⟩ : ∃ ch, fs[k]? = some ch := ⟨_, List.getElem?_eq_getElem hlt⟩
        obtain ⟨⟨D, hD, hbox⟩, hbel⟩ := hR
        have hcell := (hbel.cell (p := ⟨bl, k, none⟩) (by have := HS0.out; simp; omega)).trans ((HB0.out.cell (p := ⟨bl, k, none⟩) hbl).trans (HFS.out k ch hch))
        have hCO := HOK.out ch (List.mem_of_getElem? hch)
        have hdo := hCO.does wr w2.heap.size D hbel hbo hbox
        have hent := hCO.enters
        have hlt' : (k : Int) < (fs.length : Int) := by omega
        have HDO := Lib.hid hdo
        have HD := Lib.hid hD
        have HCH := Lib.hid hch
        have HBL := Lib.hid hbel
        clear hdo hD hch hbel hbox hCO HR
        obtain ⟨fn, caps, f⟩ := ch
        simp only [Chg.val] at hcell hent HDO HCH
        go_wp2_with fail
        refine (HDO.out).mono ?_
        rintro e w4 ⟨b4, hp⟩
        have hb4 := HBL.out.trans b4
        cases hf : f D with
        | none =>
          rw [hf] at hp
          obtain rfl := hp
          have hs0 := HS0.out
          have hx4 := HWX.out.below hb4 (by omega)
          have hy4 := HWY.out.below hb4 (by omega)
          have hb5 := HB0.out.trans (hb4.mono HB0.out.size)
          have hn : runs fs D0 = none := runs_none (k := k + 1) (by rw [runs_take HCH.out HD.out]; exact hf)
          have hs4 : w.heap.size + 1 + 1 ≤ w4.heap.size := by have := hb4.size; omega
          have HN := Lib.hid hn
          have HX4 := Lib.hid hx4
          have HY4 := Lib.hid hy4
          have HB5 := Lib.hid hb5
          clear hn hx4 hy4 hb5 hb4 b4 hf hs0 hcell hent
          go_wp2_with fail
          refine wp_goto ?_
          exact ⟨rfl, _, _, _, _, _, _, _, _, _, _, _, _, _, _, _, _, _, _, _, _, rfl, HN.out, HX4.out, HY4.out, HB5.out, hs4⟩
        | some D1 =>
          rw [hf] at hp
          obtain ⟨rfl, hbox4⟩ := hp
          have hrn : RunsAt fs D0 W0.heap.size w2.heap.size W0 (k + 1) w4 := ⟨⟨D1, by rw [runs_take HCH.out HD.out]; exact hf, hbox4⟩, hb4⟩
          have HRN := Lib.hid hrn
          clear hrn hbox4 hb4 b4 hf hcell hent
          go_wp2_with fail
          go_roundw
          case rel => exact ⟨k + 1, by go_num, by omega, HRN.out⟩
          case measure => simp [intOf]; omega

end Go.Proofs.Ytekffkoggnbgeaa
