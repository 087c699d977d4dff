/-
  Texts that the walks of the statements over logs lean on, joined (LogOpn, RefFrs, RefOpn, DiskOwn3, RefSame, RefSameAll, Hand, LogWk). Conditions: those that each theorem names.
-/
import Derived.Test.YtbkfpghpfaemeaaJ0
import Derived.Test.YtbkfpghpfaemeaaJ2
import Derived.Test.YtbkfpghpfaemeaaJ3
import Derived.Test.YtbkfpghpfaemeaaJ4
import Derived.Test.YtbkfpghpfaemeaaJ5
import Derived.Test.YtbkfpghpfaemeaaJ8

/-
  The walks of 'Safe' and 'Open' of package log. Conditions: those that each theorem names.
-/
namespace Go.Proofs.Ytbkfpghpfaemeaa
open Go.RowKit Go.Shelf

/-- Records that are answered. -/
def RecsIs (L : List PR) (w : World) (e : Ending) (w' : World) : Prop :=
  ∃ A c, e = .returned (.slice A L.length c) ∧ RecsAt w.heap.size w' (.slice A L.length c) L ∧ Below w.heap.size w w'

set_option maxRecDepth 100000 in
set_option maxHeartbeats 1000000 in
theorem logSafe_any (A : Option Addr) (n c : Nat) (s r : Int) (bs : List Nat) (w : World) (hr : Rd w w.heap.size A n (bv bs)) (hc : n ≤ c) (hby : ∀ x ∈ bs, x < 256) {D : Dk} (hD : cnt bs s r = D) {L : List PR} {u : Nat} (hlog : LogIs (D.bs.take D.syn) L u) :
    Calls Try.prog 18 #[diskV A n c s r] w (RecsIs L w) := by
  have hok : D.Ok := by have h := cnt_ok s r hby; rwa [hD] at h
  have hb0 : Below w.heap.size w (w.alloc (diskB A n c s r)) := (Below.refl _ w).alloc (Nat.le_refl _) _
  have HO := Lib.hid (own_any A n c s r bs w.heap.size _ (hr.below hb0) hb0.size hc)
  rw [hD] at HO
  have HX := Lib.hid (Whole.new w 24 #[.slice A n c, .int .i64 s, .int .i64 r])
  obtain ⟨x0, x1, x2⟩ := HX.out.cells3
  have HB := Lib.hid hb0
  have HOk := Lib.hid hok
  have HLog := Lib.hid hlog
  clear hr hby hD hok hb0 hlog
  go_enter Try.func18, Try.ntmps18
  go_wp2_with fail
  refine (HO.out).mono ?_
  rintro e w1 ⟨A1, c1, rfl, ho1, hb1⟩
  have HX1 := Lib.hid (HX.out.under hb1)
  have f0 := HX1.out.frozen 0
  have f1 := HX1.out.frozen 1
  have f2 := HX1.out.frozen 2
  obtain ⟨y0, y1, y2⟩ := HX1.out.cells3
  have hz := HX1.out.disk (.slice A1 D.bs.length c1) (.int .i64 D.syn) (.int .i64 D.room)
  obtain ⟨p0, p1, p2⟩ := hz.cells3
  have hw2 := below_setDisk (hb1.mono HB.out.size) (b := w.heap.size) (Nat.le_refl _) (.slice A1 D.bs.length c1) (.int .i64 D.syn) (.int .i64 D.room)
  have ho2 := own_setDisk ho1 (b := w.heap.size) (by simp) (.slice A1 D.bs.length c1) (.int .i64 D.syn) (.int .i64 D.room)
  have hcap := own_cap ho1
  have hsyn := HOk.out.syn
  have hlen := HOk.out.len
  have hroom := HOk.out.room
  have HB2 := Lib.hid (HB.out.trans hw2)
  have hr2 := (Rd.of_own ho2).take hsyn
  rw [bv, ← List.map_take] at hr2
  have HR2 := Lib.hid hr2
  clear hr2
  have HH := Lib.hid (run_head A1 D.bs.length c1 D.syn (by omega))
  have hi0 : (0 : Int) ≤ (D.syn : Int) := by omega
  clear x0 x1 x2 hb1 ho1 ho2 hw2 hz HO
  go_wp2_with fail
  refine (scan_any A1 D.syn c1 (D.bs.take D.syn) L u _ _ HLog.out HR2.out (Nat.le_refl _) (fun x hx => HOk.out.byte x (List.mem_of_mem_take hx)) (by omega) (by omega)).mono ?_
  rintro e w3 ⟨A3, c3, rfl, ho3, hb3⟩
  have hs : w.heap.size ≤ (setDisk w1 w.heap.size (.slice A1 D.bs.length c1) (.int .i64 D.syn) (.int .i64 D.room)).heap.size := HB2.out.size
  have HO3 := Lib.hid (ho3.weaker hs)
  have HB3 := Lib.hid (HB2.out.trans (hb3.mono hs))
  clear ho3 hb3 hs
  go_wp2_with fail
  go_ret
  exact ⟨A3, c3, rfl, HO3.out, HB3.out⟩

/-- A disk that is opened: its log alone, safe, and the log. -/
def OpenIs (bs : List Nat) (room : Nat) (L : List PR) (u : Nat) (w : World) (e : Ending) (w' : World) : Prop :=
  ∃ A c Al cl, e = .returned (.tuple #[diskV A u c u room, .slice Al L.length cl]) ∧ w'.ownsRow w.heap.size 5 1 (.slice A u c) u (bv (bs.take u)) ∧ RecsAt w.heap.size w' (.slice Al L.length cl) L ∧ Below w.heap.size w w'

theorem RecsAt.setDisk {base : Nat} {w : World} {v : Value} {L : List PR} (h : RecsAt base w v L) {b : Nat} (hb : b < base) (v0 v1 v2 : Value) : RecsAt base (setDisk w b v0 v1 v2) v L := ((h.set hb _).set hb _).set hb _

set_option maxRecDepth 100000 in
set_option maxHeartbeats 1000000 in
theorem logOpen_any (A : Option Addr) (n c : Nat) (s r : Int) (bs : List Nat) (w : World) (hr : Rd w w.heap.size A n (bv bs)) (hc : n ≤ c) (hby : ∀ x ∈ bs, x < 256) {D : Dk} (hD : cnt bs s r = D) {L : List PR} {u : Nat} (hlog : LogIs D.bs L u) :
    Calls Try.prog 14 #[diskV A n c s r] w (OpenIs D.bs D.room L u w) := by
  have hok : D.Ok := by have h := cnt_ok s r hby; rwa [hD] at h
  have hb0 : Below w.heap.size w ((w.alloc (diskB A n c s r)).alloc zeroB) := ((Below.refl _ w).alloc (Nat.le_refl _) _).alloc (by simp) _
  have HO := Lib.hid (own_any A n c s r bs w.heap.size _ (hr.below hb0) hb0.size hc)
  rw [hD] at HO
  have HX := Lib.hid ((Whole.new w 24 #[.slice A n c, .int .i64 s, .int .i64 r]).alloc zeroB)
  have hy := Whole.new (w.alloc (diskB A n c s r)) 24 #[.slice none 0 0, .int .i64 0, .int .i64 0]
  rw [World.size_alloc] at hy
  have HY := Lib.hid hy
  obtain ⟨x0, x1, x2⟩ := HX.out.cells3
  have HB := Lib.hid hb0
  have HOk := Lib.hid hok
  have HLog := Lib.hid hlog
  have hsz0 : w.heap.size + 2 = ((w.alloc (diskB A n c s r)).alloc zeroB).heap.size := by simp
  clear hr hby hD hok hb0 hlog hy
  go_enter Try.func14, Try.ntmps14
  go_wp2_with fail
  refine (HO.out).mono ?_
  rintro e w1 ⟨A1, c1, rfl, ho1, hb1⟩
  have HX1 := Lib.hid (HX.out.under hb1)
  have HY1 := Lib.hid (HY.out.under hb1)
  have f0 := HX1.out.frozen 0
  have f1 := HX1.out.frozen 1
  have f2 := HX1.out.frozen 2
  obtain ⟨y0, y1, y2⟩ := HX1.out.cells3
  have HZ := Lib.hid (HX1.out.disk (.slice A1 D.bs.length c1) (.int .i64 D.syn) (.int .i64 D.room))
  have HY2 := Lib.hid (HY1.out.farDisk (b' := w.heap.size) (by simp) (.slice A1 D.bs.length c1) (.int .i64 D.syn) (.int .i64 D.room))
  obtain ⟨p0, p1, p2⟩ := HZ.out.cells3
  have hw2 := below_setDisk (hb1.mono HB.out.size) (b := w.heap.size) (Nat.le_refl _) (.slice A1 D.bs.length c1) (.int .i64 D.syn) (.int .i64 D.room)
  have ho2 := own_setDisk ho1 (b := w.heap.size) (by simp; omega) (.slice A1 D.bs.length c1) (.int .i64 D.syn) (.int .i64 D.room)
  have hcap := own_cap ho1
  have hcapm := own_capm ho1
  have hlen := HOk.out.len
  have hroom := HOk.out.room
  have HB2 := Lib.hid (HB.out.trans hw2)
  have HR2 := Lib.hid (Rd.of_own ho2)
  have HS2 : Hid (w.heap.size + 2 ≤ (setDisk w1 w.heap.size (.slice A1 D.bs.length c1) (.int .i64 D.syn) (.int .i64 D.room)).heap.size) := by
    have := hb1.size; rw [← hsz0] at this
    show w.heap.size + 2 ≤ _
    simpa [setDisk, World.setCell] using this
  clear x0 x1 x2 hb1 ho1 ho2 hw2 HO hsz0
  go_wp2_with fail
  refine (scan_any A1 D.bs.length c1 D.bs L u _ _ HLog.out HR2.out (Nat.le_refl _) HOk.out.byte (by omega) hcap).mono ?_
  rintro e w3 ⟨A3, c3, rfl, ho3, hb3⟩
  have HO3 := Lib.hid (ho3.weaker HS2.out)
  have HB3 := Lib.hid (HB2.out.trans (hb3.mono (by have := HS2.out; omega)))
  have hle := HLog.out.le
  have HR3 := Lib.hid ((HR2.out.below hb3).more hb3.size)
  have HZ3 := Lib.hid (HZ.out.under hb3)
  have HY3 := Lib.hid (HY2.out.under hb3)
  have HS3 : Hid (w.heap.size + 2 ≤ w3.heap.size) := Nat.le_trans HS2.out hb3.size
  clear y0 y1 y2 f0 f1 f2 p0 p1 p2 ho3 hb3
  obtain ⟨z0, z1, z2⟩ := HZ3.out.cells3
  have HH := Lib.hid (run_head A1 D.bs.length c1 u (by omega))
  have hlu : (D.bs.take u).length = u := by rw [List.length_take]; omega
  have hru := HR3.out.take hle
  rw [bv, ← List.map_take] at hru
  have hcnt : cnt D.bs D.syn D.room = D := cnt_self HOk.out
  have hswap : ∀ W, Below w3.heap.size w3 W → Calls Try.prog 37 #[diskV A1 D.bs.length c1 D.syn D.room, .slice A1 u c1] W (DiskNE u (D.bs.take u) u D.room 0 W) := fun W hW => by
    have h := swap_N (b := D.bs.take u) hcnt ((HR3.out.below hW).more hW.size) hcap HOk.out.byte ((hru.below hW).more hW.size) (by omega : u ≤ c1) hcapm (fun x hx => HOk.out.byte x (List.mem_of_mem_take hx)) (by omega) rfl (by omega)
    rw [hlu] at h
    exact h
  have HSwap := Lib.hid hswap
  clear hru hcnt hswap hlu
  go_wp2_with fail
  refine (wpIn_wide (n := 5)).1 (opn_region rfl (by kernel_rfl) ⟨_, rfl, rfl, rfl, rfl, by kernel_rfl⟩ ⟨_, rfl, rfl, rfl, rfl, by kernel_rfl⟩ ⟨_, rfl, rfl, rfl, rfl, by kernel_rfl⟩ ⟨_, rfl, rfl, rfl, rfl, by kernel_rfl⟩ ⟨_, rfl, rfl, rfl, rfl, by kernel_rfl⟩ ⟨_, rfl, rfl, rfl, rfl, by kernel_rfl⟩ ⟨_, rfl, rfl, rfl, rfl, by kernel_rfl⟩ ⟨_, rfl, rfl, rfl, rfl, by kernel_rfl⟩ ⟨_, rfl, rfl, rfl, rfl, by kernel_rfl⟩ ⟨_, rfl, rfl, rfl, rfl, by kernel_rfl⟩ _ ?ds w3 w.heap.size A1 D.bs.length c1 D.syn D.room u (D.bs.take u) rfl rfl HZ3.out (by omega) HSwap.out ?fin)
  case ds =>
    intro d hd
    simp only [List.mem_cons, List.not_mem_nil, or_false] at hd
    rcases hd with rfl | rfl | rfl | rfl | rfl | rfl | rfl | rfl | rfl <;> simp
  case fin =>
    rintro σ w5 A5 c5 ho5 hb5
    simp only [lay, List.foldl_cons, List.foldl_nil, Act.put, List.setIfInBounds_toArray, List.set_cons_zero, List.set_cons_succ]
    have HZ5 := Lib.hid ((HZ3.out.under hb5).disk (.slice A5 u c5) (.int .i64 u) (.int .i64 D.room))
    have HY5 := Lib.hid ((HY3.out.under hb5).farDisk (b' := w.heap.size) (by simp) (.slice A5 u c5) (.int .i64 u) (.int .i64 D.room))
    have HO5 := Lib.hid (own_setDisk (own_weaker ho5 HS3.out) (b := w.heap.size) (by omega) (.slice A5 u c5) (.int .i64 u) (.int .i64 D.room))
    have HL5 := Lib.hid ((HO3.out.under hb5).setDisk (b := w.heap.size) (by omega) (.slice A5 u c5) (.int .i64 u) (.int .i64 D.room))
    have HB5 := Lib.hid (below_setDisk (HB3.out.trans (hb5.mono (by have := HS3.out; omega))) (b := w.heap.size) (Nat.le_refl _) (.slice A5 u c5) (.int .i64 u) (.int .i64 D.room))
    clear z0 z1 z2 ho5 hb5 HSwap
    obtain ⟨W5, hW5⟩ : ∃ W5, setDisk w5 w.heap.size (.slice A5 u c5) (.int .i64 u) (.int .i64 D.room) = W5 := ⟨_, rfl⟩
    rw [hW5] at HZ5 HY5 HO5 HL5 HB5 ⊢
    clear hW5
    obtain ⟨z0, z1, z2⟩ := HZ5.out.cells3
    obtain ⟨y0, y1, y2⟩ := HY5.out.cells3
    have f0 := HY5.out.frozen 0
    have f1 := HY5.out.frozen 1
    have f2 := HY5.out.frozen 2
    have hz := HY5.out.disk (.slice A5 u c5) (.int .i64 u) (.int .i64 D.room)
    obtain ⟨p0, p1, p2⟩ := hz.cells3
    clear hz
    go_wp2_with fail
    refine bodyPost_ret (v := .tuple #[diskV A5 u c5 u D.room, .slice A3 L.length c3]) (by simp [results, Try.results14, go_sem, p0, p1, p2]) rfl ⟨A5, c5, A3, c3, rfl, ?_, ?_, ?_⟩
    · exact own_weaker (own_setDisk HO5.out (b := w.heap.size + 1) (by omega) _ _ _) (by omega)
    · exact (HL5.out.setDisk (b := w.heap.size + 1) (by omega) _ _ _).weaker (by omega)
    · exact below_setDisk HB5.out (b := w.heap.size + 1) (Nat.le_succ _) _ _ _

end Go.Proofs.Ytbkfpghpfaemeaa

/-
  The walks of the document's own 'frames', 'Long', 'Add', 'Safe' of logs. Conditions: those that each theorem names.
-/
namespace Go.Proofs.Ytbkfpghpfaemeaa
open Go.RowKit Go.Shelf

/-- The bytes of records, and whether all may be. -/
def FrsIs (L : List PR) (w : World) (e : Ending) (w' : World) : Prop :=
  (allOk L ∧ ∃ A c, e = .returned (.tuple #[.slice A (lbytes L).length c, .bool true]) ∧ w'.ownsRow w.heap.size 5 1 (.slice A (lbytes L).length c) (lbytes L).length (bv (lbytes L)) ∧ Below w.heap.size w w') ∨
  (¬ allOk L ∧ e = .returned (.tuple #[.slice none 0 0, .bool false]) ∧ Below w.heap.size w w')

set_option maxRecDepth 100000 in
set_option maxHeartbeats 1000000 in
theorem refFrames_any (A : Option Addr) (n c : Nat) (es : List RE) (L : List PR) (hL : recsOf es = L) (B : Nat) (w : World) (hr : RdR w B A n es) (hB : B ≤ w.heap.size) (hn : n ≤ 1000) :
    Calls Try.prog 35 #[.slice A n c] w (FrsIs L w) := by
  have hl : L.length = n := by rw [← hL, recsOf, List.length_map]; exact hr.1
  have HR := Lib.hid (hr.more hB)
  have HL := Lib.hid hl
  have HE := Lib.hid hL
  clear hr hB hl hL
  go_enter Try.func35, Try.ntmps35
  go_wp2_with fail
  go_loopw [4, 5] (fun v i wr => ∃ j : Nat, i = .int .i64 (j : Int) ∧ j ≤ n ∧ allOk (L.take j) ∧ wr.ownsRow w.heap.size 5 1 v (lbytes (L.take j)).length (bv (lbytes (L.take j))) ∧ Below w.heap.size w wr) (fun _ i _ => n - (intOf i).toNat)
  case atStart => exact ⟨0, rfl, Nat.zero_le _, by simp [allOk], World.ownsRow_nil _ _ _ _, Below.refl _ _⟩
  case round =>
    obtain ⟨j, rfl, hj, hok, hown, hb⟩ := hrel
    obtain ⟨Av, cv, rfl⟩ := own_form hown
    have HOk := Lib.hid hok
    have HOwn := Lib.hid hown
    have HB := Lib.hid hb
    clear hown hb
    by_cases hlt : j < n
    · have hjl : j < es.length := by rw [HR.out.1]; exact hlt
      obtain ⟨x, hx⟩ : ∃ x, es[j]? = some x := ⟨_, List.getElem?_eq_getElem hjl⟩
      obtain ⟨b, off, rfl, hblt, hc⟩ := (HR.out.below HB.out).2.1 (by omega)
      obtain ⟨h1, h2⟩ := hc j x hx
      obtain ⟨hk, hrx⟩ := (HR.out.below HB.out).2.2 x (List.mem_of_getElem? hx)
      have hI : (j : Int) < (n : Int) := by omega
      have hX : L[j]? = some (x.k, x.zs) := by rw [← HE.out, recsOf, List.getElem?_map, hx]; rfl
      have HX := Lib.hid hX
      have HRX := Lib.hid hrx
      clear hc hx hrx hjl hX
      cases x with
      | mk k A' n' c' zs' =>
      simp only at h1 h2 hk HRX HX
      have htot : (lbytes (L.take j)).length ≤ 306 * 1000 := by
        have h3 := lbytes_le hok
        rw [List.length_take] at h3
        omega
      clear hok
      by_cases hm : mayB k zs' = true
      · have hP := refPutRec_yes k A' n' c' zs' w.heap.size wr HRX.out HB.out.size hm
        have HP := Lib.hid hP
        have hpl4 := pl_len (r := (k, zs')) hm
        have HM := Lib.hid hm
        clear hP hm
        go_wp2_with fail
        refine (HP.out).mono ?_
        rintro e w1 ⟨A1, c1, rfl, hI1⟩
        have hF := refFrPut_any A1 (recB k zs').length c1 (recB k zs') w1.heap.size w1 (Rd.of_own hI1.1) (Nat.le_refl _) (recB_bytes k zs') hpl4
        have HF := Lib.hid hF
        have HD1 := Lib.hid hI1.2.1
        clear hF hI1 HP
        go_wp2_with fail
        refine (HF.out).mono ?_
        rintro e w2 ⟨A2, c2, rfl, o2, d2⟩
        have hd2 : Below wr.heap.size wr w2 := HD1.out.trans (d2.mono HD1.out.size)
        have hb2 : Below w.heap.size w w2 := HB.out.trans (hd2.mono HB.out.size)
        have ho := own_under HOwn.out hd2
        have hfl : frLen (recB k zs').length = (lfr (k, zs')).length := by unfold lfr pl; rw [fr_length]
        have hx6 := lfr_len (r := (k, zs')) HM.out
        rw [hfl] at o2
        obtain ⟨v4, w4, hrun, o4, g4⟩ := run_app w2 w.heap.size _ (lbytes (L.take j)).length _ ho w2.heap.size A2 (lfr (k, zs')).length c2 (lfr (k, zs')) (Rd.of_own o2) (by omega) hb2.size
        obtain ⟨A4, c4, rfl⟩ := own_form o4
        have hb4 : Below w.heap.size w w4 := hb2.trans (below_row ho g4 hb2.size)
        rw [← hfl] at hrun
        have HRun := Lib.hid hrun
        have HO4 := Lib.hid o4
        have HB4 := Lib.hid hb4
        have HFL := Lib.hid hfl
        clear hrun o4 hb4 hb2 hd2 ho g4 o2 d2 HF hfl hx6
        go_wp2_with (first | (at_builtin; refine wpList_app (by rfl) _ _ _ rfl _ _ _ _ rfl rfl HRun.out ?_; clear HRun))
        go_roundw
        case rel =>
          refine ⟨j + 1, by go_num, by omega, allOk_take HX.out HOk.out HM.out, ?_, HB4.out⟩
          rw [lbytes_take HX.out, List.length_append, bv_append, HFL.out]
          exact HO4.out
        case measure => simp [intOf]; omega
      · have hf : mayB k zs' = false := by simpa using hm
        have HP := Lib.hid (refPutRec_no k A' n' c' zs' w.heap.size wr HRX.out HB.out.size hf)
        have HNo := Lib.hid (not_allOk HX.out (show ¬ okR (k, zs') from hm))
        clear hm hf
        go_wp2_with fail
        refine (HP.out).mono ?_
        rintro e w1 ⟨rfl, d1⟩
        go_wp2_with fail
        go_ret2
        exact .inr ⟨HNo.out, rfl, HB.out.trans (d1.mono HB.out.size)⟩
    · have hjn : j = n := by omega
      have ht : L.take j = L := List.take_of_length_le (by rw [HL.out]; omega)
      have hI : ¬ (j : Int) < (n : Int) := by omega
      clear hok
      rw [ht] at HOk HOwn ⊢
      clear ht
      go_wp2_with fail
      go_ret2
      exact .inl ⟨HOk.out, Av, cv, rfl, HOwn.out, HB.out⟩

set_option maxHeartbeats 1000000 in
theorem refLogLong_any (A : Option Addr) (n c : Nat) (es : List RE) (L : List PR) (hL : recsOf es = L) (B : Nat) (w : World) (hr : RdR w B A n es) (hB : B ≤ w.heap.size) (hn : n ≤ 1000) :
    Calls Try.prog 21 #[.slice A n c] w (LenIs L w) := by
  have HF := Lib.hid (refFrames_any A n c es L hL B w hr hB hn)
  clear hr hB hn hL
  go_enter Try.func21, Try.ntmps21
  go_wp2_with fail
  refine (HF.out).mono ?_
  rintro e w1 (⟨hok, A1, c1, rfl, _, hb⟩ | ⟨hno, rfl, hb⟩)
  · have hlen := lenOf_yes hok
    have HB := Lib.hid hb
    have HLen := Lib.hid hlen
    clear hb hok hlen
    go_wp2_with fail
    go_ret
    exact ⟨by rw [HLen.out]; rfl, HB.out⟩
  · have hlen := lenOf_no hno
    have HB := Lib.hid hb
    have HLen := Lib.hid hlen
    clear hb hno hlen
    go_wp2_with fail
    go_ret
    exact ⟨by rw [HLen.out]; rfl, HB.out⟩

theorem cnt_room {bs : List Nat} {s r : Int} {D : Dk} (hD : cnt bs s r = D) : cnt bs s r = ⟨D.bs, D.syn, D.room⟩ := by rw [hD]

theorem refAppend_D (A : Option Addr) (n c : Nat) (s r : Int) (bs : List Nat) (L : List PR) (Ab : Option Addr) (nb cb : Nat) (w : World) (hr : Rd w w.heap.size A n (bv bs)) (hc : n ≤ c) (hnm : n ≤ 500000) (hby : ∀ x ∈ bs, x < 256) (hL : allOk L) (hnb : nb = (lbytes L).length) (hrb : Rd w w.heap.size Ab nb (bv (lbytes L))) (hnb1 : nb ≤ 100000) {D : Dk} (hD : cnt bs s r = D) :
    Calls Try.prog 36 #[diskV A n c s r, .slice Ab nb cb] w (DkE (addD L D).1 (addD L D).2 w) := by
  by_cases hf : D.bs.length + (lbytes L).length ≤ D.room
  · rw [addD_yes hL hf]
    have h := refAppend_fit A n c s r bs Ab nb cb (lbytes L) w hr hc hnm hby (cnt_room hD) rfl hrb (by omega)
    unfold DkE
    simp only [List.length_append]
    rw [hnb] at h ⊢
    exact h
  · rw [addD_full hL hf]
    have h := refAppend_full A n c s r bs Ab nb cb (lbytes L) w hr hc hnm hby (cnt_room hD) rfl hrb hnb1 (by omega)
    exact h

set_option maxRecDepth 100000 in
set_option maxHeartbeats 1000000 in
theorem refLogAdd_any (A : Option Addr) (n c : Nat) (s r : Int) (bs : List Nat) (Ar : Option Addr) (nr cr : Nat) (es : List RE) (L : List PR) (hL : recsOf es = L) (w : World) (hr : Rd w w.heap.size A n (bv bs)) (hc : n ≤ c) (hnm : n ≤ 500000) (hby : ∀ x ∈ bs, x < 256) (hrr : RdR w w.heap.size Ar nr es) (hnr : nr ≤ 300) {D : Dk} (hD : cnt bs s r = D) :
    Calls Try.prog 13 #[diskV A n c s r, .slice Ar nr cr] w (DkE (addD L D).1 (addD L D).2 w) := by
  have hb0 : Below w.heap.size w ((w.alloc (diskB A n c s r)).alloc zeroB) := ((Below.refl _ w).alloc (Nat.le_refl _) _).alloc (by simp) _
  have hll : L.length = nr := by rw [← hL, recsOf, List.length_map]; exact hrr.1
  have HT := Lib.hid (refFrames_any Ar nr cr es L hL w.heap.size _ (hrr.below hb0) hb0.size (by omega))
  have HX := Lib.hid ((Whole.new w 24 #[.slice A n c, .int .i64 s, .int .i64 r]).alloc zeroB)
  have hy := Whole.new (w.alloc (diskB A n c s r)) 24 #[.slice none 0 0, .int .i64 0, .int .i64 0]
  rw [World.size_alloc] at hy
  have HY := Lib.hid hy
  have HB := Lib.hid hb0
  have HR := Lib.hid hr
  have HBy := Lib.hid hby
  have HD := Lib.hid hD
  have HLl := Lib.hid hll
  obtain ⟨⟨D', E⟩, hRes⟩ : ∃ R, addD L D = R := ⟨_, rfl⟩
  rw [hRes]
  have HRes := Lib.hid hRes
  clear hb0 hrr hL hy hr hby hD hll hRes
  go_enter Try.func13, Try.ntmps13
  go_wp2_with fail
  refine (HT.out).mono ?_
  rintro e w1 (⟨hok, Ab, cb, rfl, hown, hb1⟩ | ⟨hno, rfl, hb1⟩)
  · have HX1 := Lib.hid (HX.out.under hb1)
    have HY1 := Lib.hid (HY.out.under hb1)
    have HB1 := Lib.hid (HB.out.trans (hb1.mono HB.out.size))
    obtain ⟨x0, x1, x2⟩ := HX1.out.cells3
    have hnb1 : (lbytes L).length ≤ 100000 := by have := lbytes_le hok; rw [HLl.out] at this; omega
    have HA := Lib.hid (refAppend_D A n c s r bs L Ab _ cb w1 ((HR.out.below HB1.out).more HB1.out.size) hc hnm HBy.out hok rfl (Rd.of_own hown) hnb1 HD.out)
    rw [HRes.out] at HA
    clear hown hb1 HT
    go_wp2_with fail
    refine (HA.out).mono ?_
    rintro e w2 ⟨A2, c2, rfl, ho2, hb2⟩
    have HY2 := Lib.hid (HY1.out.under hb2)
    obtain ⟨y0, y1, y2⟩ := HY2.out.cells3
    have f0 := HY2.out.frozen 0
    have f1 := HY2.out.frozen 1
    have f2 := HY2.out.frozen 2
    have HO2 := Lib.hid ho2
    have HB2 := Lib.hid (HB1.out.trans (hb2.mono HB1.out.size))
    have hz := HY2.out.disk (.slice A2 D'.bs.length c2) (.int .i64 D'.syn) (.int .i64 D'.room)
    obtain ⟨p0, p1, p2⟩ := hz.cells3
    clear ho2 hb2 hz HA
    go_wp2_with fail
    refine bodyPost_ret (v := .tuple #[diskV A2 D'.bs.length c2 D'.syn D'.room, .int .i64 E]) (by simp [results, Try.results13, go_sem, p0, p1, p2]) rfl ⟨A2, c2, rfl, ?_, ?_⟩
    · exact own_weaker (own_setDisk HO2.out (b := w.heap.size + 1) (by have := HY1.out.lt; omega) _ _ _) (HB1.out.size)
    · exact below_setDisk HB2.out (b := w.heap.size + 1) (Nat.le_succ _) _ _ _
  · have HX1 := Lib.hid (HX.out.under hb1)
    have HY1 := Lib.hid (HY.out.under hb1)
    have HB1 := Lib.hid (HB.out.trans (hb1.mono HB.out.size))
    obtain ⟨x0, x1, x2⟩ := HX1.out.cells3
    have h1 := HRes.out
    rw [addD_no hno] at h1
    injection h1 with h1 h2
    subst h1
    subst h2
    have HA : Hid (Calls Try.prog 28 #[diskV A n c s r] w1 (DiskN D.bs.length D.bs D.syn D.room w1)) := Lib.hid (refOwn_any A n c s r bs w1 ((HR.out.below HB1.out).more HB1.out.size) hc hnm (cnt_room HD.out) rfl)
    clear hno hb1 HT
    go_wp2_with fail
    refine (HA.out).mono ?_
    rintro e w2 ⟨A2, c2, rfl, ho2, hb2⟩
    have HY2 := Lib.hid (HY1.out.under hb2)
    obtain ⟨y0, y1, y2⟩ := HY2.out.cells3
    have f0 := HY2.out.frozen 0
    have f1 := HY2.out.frozen 1
    have f2 := HY2.out.frozen 2
    have HO2 := Lib.hid ho2
    have HB2 := Lib.hid (HB1.out.trans (hb2.mono HB1.out.size))
    have hz := HY2.out.disk (.slice A2 D.bs.length c2) (.int .i64 D.syn) (.int .i64 D.room)
    obtain ⟨p0, p1, p2⟩ := hz.cells3
    clear ho2 hb2 hz HA
    go_wp2_with fail
    refine bodyPost_ret (v := .tuple #[diskV A2 D.bs.length c2 D.syn D.room, .int .i64 2]) (by simp [results, Try.results13, go_sem, p0, p1, p2]) rfl ⟨A2, c2, rfl, ?_, ?_⟩
    · exact own_weaker (own_setDisk HO2.out (b := w.heap.size + 1) (by have := HY1.out.lt; omega) _ _ _) (HB1.out.size)
    · exact below_setDisk HB2.out (b := w.heap.size + 1) (Nat.le_succ _) _ _ _

set_option maxRecDepth 100000 in
set_option maxHeartbeats 1000000 in
theorem refLogSafe_any (A : Option Addr) (n c : Nat) (s r : Int) (bs : List Nat) (w : World) (hr : Rd w w.heap.size A n (bv bs)) (hc : n ≤ c) (hnm : n ≤ 500000) (hby : ∀ x ∈ bs, x < 256) {D : Dk} (hD : cnt bs s r = D) {L : List PR} {u : Nat} (hlog : LogIs (D.bs.take D.syn) L u) :
    Calls Try.prog 19 #[diskV A n c s r] w (RecsIs L w) := by
  have hok : D.Ok := by have h := cnt_ok s r hby; rwa [hD] at h
  have hb0 : Below w.heap.size w (w.alloc (diskB A n c s r)) := (Below.refl _ w).alloc (Nat.le_refl _) _
  have HO : Hid (Calls Try.prog 28 #[diskV A n c s r] (w.alloc (diskB A n c s r)) (DiskN D.bs.length D.bs D.syn D.room (w.alloc (diskB A n c s r)))) := Lib.hid (refOwn_any A n c s r bs _ ((hr.below hb0).more hb0.size) hc hnm (cnt_room hD) rfl)
  have HX := Lib.hid (Whole.new w 24 #[.slice A n c, .int .i64 s, .int .i64 r])
  obtain ⟨x0, x1, x2⟩ := HX.out.cells3
  have HB := Lib.hid hb0
  have HOk := Lib.hid hok
  have HLog := Lib.hid hlog
  clear hr hby hD hok hb0 hlog
  go_enter Try.func19, Try.ntmps19
  go_wp2_with fail
  refine (HO.out).mono ?_
  rintro e w1 ⟨A1, c1, rfl, ho1, hb1⟩
  have HX1 := Lib.hid (HX.out.under hb1)
  have f0 := HX1.out.frozen 0
  have f1 := HX1.out.frozen 1
  have f2 := HX1.out.frozen 2
  obtain ⟨y0, y1, y2⟩ := HX1.out.cells3
  have hz := HX1.out.disk (.slice A1 D.bs.length c1) (.int .i64 D.syn) (.int .i64 D.room)
  obtain ⟨p0, p1, p2⟩ := hz.cells3
  have hw2 := below_setDisk (hb1.mono HB.out.size) (b := w.heap.size) (Nat.le_refl _) (.slice A1 D.bs.length c1) (.int .i64 D.syn) (.int .i64 D.room)
  have ho2 := own_setDisk ho1 (b := w.heap.size) (by simp) (.slice A1 D.bs.length c1) (.int .i64 D.syn) (.int .i64 D.room)
  have hcap := own_cap ho1
  have hsyn := HOk.out.syn
  have hlen := HOk.out.len
  have hroom := HOk.out.room
  have HB2 := Lib.hid (HB.out.trans hw2)
  have hr2 := (Rd.of_own ho2).take hsyn
  rw [bv, ← List.map_take] at hr2
  have HR2 := Lib.hid hr2
  clear hr2
  have HH := Lib.hid (run_head A1 D.bs.length c1 D.syn (by omega))
  have hi0 : (0 : Int) ≤ (D.syn : Int) := by omega
  clear x0 x1 x2 hb1 ho1 ho2 hw2 hz HO
  go_wp2_with fail
  refine (refScan_any A1 D.syn c1 (D.bs.take D.syn) L u _ _ HLog.out HR2.out (Nat.le_refl _) (fun x hx => HOk.out.byte x (List.mem_of_mem_take hx)) (by omega) (by omega)).mono ?_
  rintro e w3 ⟨A3, c3, rfl, ho3, hb3⟩
  have hs : w.heap.size ≤ (setDisk w1 w.heap.size (.slice A1 D.bs.length c1) (.int .i64 D.syn) (.int .i64 D.room)).heap.size := HB2.out.size
  have HO3 := Lib.hid (ho3.weaker hs)
  have HB3 := Lib.hid (HB2.out.trans (hb3.mono hs))
  clear ho3 hb3 hs
  go_wp2_with fail
  go_ret
  exact ⟨A3, c3, rfl, HO3.out, HB3.out⟩

end Go.Proofs.Ytbkfpghpfaemeaa

/-
  The walks of the document's own 'Open' and 'Same' of logs, and of the statements' 'great'. Conditions: those that each theorem names.
-/
namespace Go.Proofs.Ytbkfpghpfaemeaa
open Go.RowKit Go.Shelf

theorem own_take {w : World} {base n c k : Nat} {e : TypeId} {A : Option Addr} {xs : List Value} (h : w.ownsRow base e 1 (.slice A n c) n xs) (hk : k ≤ n) : w.ownsRow base e 1 (.slice A k c) k (xs.take k) := by
  obtain ⟨h1, h2⟩ := h
  refine ⟨by rw [List.length_take]; omega, ?_⟩
  rcases h2 with ⟨h2, h3⟩ | ⟨g, cap, cur, h2, h3, h4, h5, h6, h7, h8⟩
  · injection h2 with e1 e2 e3
    left
    have hk0 : k = 0 := by omega
    subst e1; subst e3; subst hk0
    exact ⟨rfl, rfl⟩
  · injection h2 with e1 e2 e3
    subst e1; subst e3
    refine .inr ⟨g, c, cur, rfl, h3, h4, by omega, h6, h7, ?_⟩
    rw [← h8, List.take_take]
    congr 1
    omega

set_option maxRecDepth 100000 in
set_option maxHeartbeats 1000000 in
theorem refLogOpen_any (A : Option Addr) (n c : Nat) (s r : Int) (bs : List Nat) (w : World) (hr : Rd w w.heap.size A n (bv bs)) (hc : n ≤ c) (hnm : n ≤ 500000) (hby : ∀ x ∈ bs, x < 256) {D : Dk} (hD : cnt bs s r = D) {L : List PR} {u : Nat} (hlog : LogIs D.bs L u) :
    Calls Try.prog 15 #[diskV A n c s r] w (OpenIs D.bs D.room L u w) := by
  have hok : D.Ok := by have h := cnt_ok s r hby; rwa [hD] at h
  have hb0 : Below w.heap.size w ((w.alloc (diskB A n c s r)).alloc zeroB) := ((Below.refl _ w).alloc (Nat.le_refl _) _).alloc (by simp) _
  have HO : Hid (Calls Try.prog 28 #[diskV A n c s r] ((w.alloc (diskB A n c s r)).alloc zeroB) (DiskN D.bs.length D.bs D.syn D.room ((w.alloc (diskB A n c s r)).alloc zeroB))) := Lib.hid (refOwn_any A n c s r bs _ ((hr.below hb0).more hb0.size) hc hnm (cnt_room hD) rfl)
  have HX := Lib.hid ((Whole.new w 24 #[.slice A n c, .int .i64 s, .int .i64 r]).alloc zeroB)
  have hy := Whole.new (w.alloc (diskB A n c s r)) 24 #[.slice none 0 0, .int .i64 0, .int .i64 0]
  rw [World.size_alloc] at hy
  have HY := Lib.hid hy
  obtain ⟨x0, x1, x2⟩ := HX.out.cells3
  have HB := Lib.hid hb0
  have HOk := Lib.hid hok
  have HLog := Lib.hid hlog
  have hsz0 : w.heap.size + 2 = ((w.alloc (diskB A n c s r)).alloc zeroB).heap.size := by simp
  clear hr hby hD hok hb0 hlog hy
  go_enter Try.func15, Try.ntmps15
  go_wp2_with fail
  refine (HO.out).mono ?_
  rintro e w1 ⟨A1, c1, rfl, ho1, hb1⟩
  have HX1 := Lib.hid (HX.out.under hb1)
  have HY1 := Lib.hid (HY.out.under hb1)
  have f0 := HX1.out.frozen 0
  have f1 := HX1.out.frozen 1
  have f2 := HX1.out.frozen 2
  obtain ⟨y0, y1, y2⟩ := HX1.out.cells3
  have HZ := Lib.hid (HX1.out.disk (.slice A1 D.bs.length c1) (.int .i64 D.syn) (.int .i64 D.room))
  have HY2 := Lib.hid (HY1.out.farDisk (b' := w.heap.size) (by simp) (.slice A1 D.bs.length c1) (.int .i64 D.syn) (.int .i64 D.room))
  obtain ⟨p0, p1, p2⟩ := HZ.out.cells3
  have hw2 := below_setDisk (hb1.mono HB.out.size) (b := w.heap.size) (Nat.le_refl _) (.slice A1 D.bs.length c1) (.int .i64 D.syn) (.int .i64 D.room)
  have ho2 := own_setDisk ho1 (b := w.heap.size) (by simp; omega) (.slice A1 D.bs.length c1) (.int .i64 D.syn) (.int .i64 D.room)
  have hcap := own_cap ho1
  have hlen := HOk.out.len
  have hroom := HOk.out.room
  have HB2 := Lib.hid (HB.out.trans hw2)
  have HO2 := Lib.hid (own_weaker ho2 (by rw [← hsz0]; exact Nat.le_refl _ : w.heap.size + 2 ≤ _))
  have HR2 := Lib.hid (Rd.of_own ho2)
  have HS2 : Hid (w.heap.size + 2 ≤ (setDisk w1 w.heap.size (.slice A1 D.bs.length c1) (.int .i64 D.syn) (.int .i64 D.room)).heap.size) := by
    have := hb1.size; rw [← hsz0] at this
    show w.heap.size + 2 ≤ _
    simpa [setDisk, World.setCell] using this
  clear x0 x1 x2 hb1 ho1 ho2 hw2 HO hsz0
  go_wp2_with fail
  refine (refScan_any A1 D.bs.length c1 D.bs L u _ _ HLog.out HR2.out (Nat.le_refl _) HOk.out.byte (by omega) hcap).mono ?_
  rintro e w3 ⟨A3, c3, rfl, ho3, hb3⟩
  have hle := HLog.out.le
  have HO3 := Lib.hid (ho3.weaker HS2.out)
  have HB3 := Lib.hid (HB2.out.trans (hb3.mono (by have := HS2.out; omega)))
  have HOw3 := Lib.hid (own_under HO2.out hb3)
  have HZ3 := Lib.hid (HZ.out.under hb3)
  have HY3 := Lib.hid (HY2.out.under hb3)
  clear y0 y1 y2 f0 f1 f2 p0 p1 p2 ho3 hb3
  obtain ⟨z0, z1, z2⟩ := HZ3.out.cells3
  have f0 := HZ3.out.frozen 0
  have f1 := HZ3.out.frozen 1
  have g0 := HY3.out.frozen 0
  have g1 := HY3.out.frozen 1
  have g2 := HY3.out.frozen 2
  obtain ⟨y0, y1, y2⟩ := HY3.out.cells3
  have HH := Lib.hid (run_head A1 D.bs.length c1 u (by omega))
  have hlu : (D.bs.take u).length = u := by rw [List.length_take]; omega
  have HLu := Lib.hid hlu
  clear hlu
  go_wp2_with fail
  have hown := own_take HOw3.out hle
  rw [bv, ← List.map_take] at hown
  have hz := (((HY3.out.far (p := ⟨w.heap.size, 0, none⟩) (by simp) (.slice A1 u c1)).far (p := ⟨w.heap.size, 1, none⟩) (by simp) (.int .i64 u))).disk (.slice A1 u c1) (.int .i64 u) (.int .i64 D.room)
  obtain ⟨p0, p1, p2⟩ := hz.cells3
  refine bodyPost_ret (v := .tuple #[diskV A1 u c1 u D.room, .slice A3 L.length c3]) (by simp [results, Try.results15, go_sem, p0, p1, p2]) rfl ⟨A1, c1, A3, c3, rfl, ?_, ?_, ?_⟩
  · exact own_weaker (own_setDisk (own_set (own_set hown (b := w.heap.size) (off := 0) (by omega) _) (b := w.heap.size) (off := 1) (by omega) _) (b := w.heap.size + 1) (by omega) _ _ _) (by omega)
  · exact (((HO3.out.set (b := w.heap.size) (off := 0) (by omega) _).set (b := w.heap.size) (off := 1) (by omega) _).setDisk (b := w.heap.size + 1) (by omega) _ _ _).weaker (by omega)
  · exact below_setDisk ((HB3.out.setCell (p := ⟨w.heap.size, 0, none⟩) (Nat.le_refl _) _).setCell (p := ⟨w.heap.size, 1, none⟩) (Nat.le_refl _) _) (b := w.heap.size + 1) (Nat.le_succ _) _ _ _

theorem take_growR {α : Type} {zs zs' : List α} {j : Nat} {x : α} (h : zs.take j = zs'.take j) (h1 : zs[j]? = some x) (h2 : zs'[j]? = some x) : zs.take (j + 1) = zs'.take (j + 1) := by
  have a1 : j < zs.length := (List.getElem?_eq_some_iff.1 h1).1
  have a2 : j < zs'.length := (List.getElem?_eq_some_iff.1 h2).1
  rw [List.take_succ_eq_append_getElem a1, List.take_succ_eq_append_getElem a2, h]
  rw [List.getElem?_eq_getElem a1] at h1
  rw [List.getElem?_eq_getElem a2] at h2
  rw [Option.some.inj h1, Option.some.inj h2]
def sameR (L M : List PR) : Bool := decide (L = M)

set_option maxRecDepth 100000 in
set_option maxHeartbeats 1000000 in
theorem refRecsSame_any (A : Option Addr) (n c : Nat) (es : List RE) (A' : Option Addr) (n' c' : Nat) (es' : List RE) (B B' : Nat) (w : World) (hr : RdR w B A n es) (hr' : RdR w B' A' n' es') (hB : B ≤ w.heap.size) (hB' : B' ≤ w.heap.size) (hn : n ≤ 1000000) (hsm : ∀ x ∈ es, x.n ≤ 1000000) :
    Calls Try.prog 16 #[.slice A n c, .slice A' n' c'] w (BoolPost (sameR (recsOf es) (recsOf es')) w) := by
  have hl : (recsOf es).length = n := by rw [recsOf, List.length_map]; exact hr.1
  have hl' : (recsOf es').length = n' := by rw [recsOf, List.length_map]; exact hr'.1
  have HR := Lib.hid (hr.more hB)
  have HR' := Lib.hid (hr'.more hB')
  have HL := Lib.hid hl
  have HL' := Lib.hid hl'
  have HSm := Lib.hid hsm
  clear hr hr' hB hB' hl hl' hsm
  by_cases hne : n = n'
  · subst hne
    go_enter Try.func16, Try.ntmps16
    go_wp2_with fail
    go_loopw [5] (fun i wr => ∃ j : Nat, i = .int .i64 (j : Int) ∧ j ≤ n ∧ (recsOf es).take j = (recsOf es').take j ∧ Below w.heap.size w wr) (fun i _ => n - (intOf i).toNat)
    case atStart => exact ⟨0, rfl, Nat.zero_le _, rfl, Below.refl _ _⟩
    case round =>
      obtain ⟨j, rfl, hj, hT, hb⟩ := hrel
      have HT := Lib.hid hT
      have HB := Lib.hid hb
      clear hT hb
      by_cases hlt : j < n
      · have hjl : j < es.length := by rw [HR.out.1]; exact hlt
        have hjl' : j < es'.length := by rw [HR'.out.1]; exact hlt
        obtain ⟨x, hx⟩ : ∃ x, es[j]? = some x := ⟨_, List.getElem?_eq_getElem hjl⟩
        obtain ⟨y, hy⟩ : ∃ y, es'[j]? = some y := ⟨_, List.getElem?_eq_getElem hjl'⟩
        obtain ⟨b, off, rfl, hblt, hc⟩ := (HR.out.below HB.out).2.1 (by omega)
        obtain ⟨b', off', rfl, hblt', hc'⟩ := (HR'.out.below HB.out).2.1 (by omega)
        have hS : Hid (∀ W : World, Below w.heap.size w W → W.cell? ⟨b, off + j * 2, none⟩ = some (.int .u8 (x.k : Int)) ∧ W.cell? ⟨b, off + j * 2 + 1, none⟩ = some (.slice x.A x.n x.c) ∧ W.cell? ⟨b', off' + j * 2, none⟩ = some (.int .u8 (y.k : Int)) ∧ W.cell? ⟨b', off' + j * 2 + 1, none⟩ = some (.slice y.A y.n y.c)) := fun W hW => by
          obtain ⟨b2, off2, e2, _, hc2⟩ := (HR.out.below hW).2.1 (by omega)
          obtain ⟨b3, off3, e3, _, hc3⟩ := (HR'.out.below hW).2.1 (by omega)
          injection e2 with e2; injection e2 with e2 e4 _
          injection e3 with e3; injection e3 with e3 e5 _
          subst e2; subst e3; subst e4; subst e5
          exact ⟨(hc2 j x hx).1, (hc2 j x hx).2, (hc3 j y hy).1, (hc3 j y hy).2⟩
        have hI : (j : Int) < (n : Int) := by omega
        have hxn := HSm.out x (List.mem_of_getElem? hx)
        have hC : Hid (∀ W : World, Below w.heap.size w W → Calls Try.prog 26 #[.agg #[.int .u8 (x.k : Int), .slice x.A x.n x.c], .agg #[.int .u8 (y.k : Int), .slice y.A y.n y.c]] W (BoolPost (sameB x.k x.zs y.k y.zs) W)) := fun W hW =>
          refSameRec_any x.k y.k x.A y.A x.n x.c y.n y.c x.zs y.zs w.heap.size w.heap.size W ((HR.out.below hW).2.2 x (List.mem_of_getElem? hx)).2 ((HR'.out.below hW).2.2 y (List.mem_of_getElem? hy)).2 hW.size hW.size hxn
        have hX : (recsOf es)[j]? = some (x.k, x.zs) := by rw [recsOf, List.getElem?_map, hx]; rfl
        have hY : (recsOf es')[j]? = some (y.k, y.zs) := by rw [recsOf, List.getElem?_map, hy]; rfl
        have HX := Lib.hid hX
        have HY := Lib.hid hY
        cases x with
        | mk k A1 n1 c1 zs =>
        cases y with
        | mk k' A2 n2 c2 zs' =>
        simp only at hS hC HX HY
        clear hc hc' hx hy hjl hjl' hX hY hxn
        obtain ⟨g0, g1, g2, g3⟩ := hS.out wr HB.out
        by_cases heq : (k, zs) = (k', zs')
        · have hT2 := take_growR HT.out HX.out (by rw [heq]; exact HY.out)
          injection heq with e1 e2
          have hsb : sameB k zs k' zs' = true := by rw [e1, e2]; simp [sameB]
          rw [hsb] at hC
          have HT2 := Lib.hid hT2
          clear hT2 hsb e1 e2
          go_wp2_with fail
          go_region_held3 (fun W => W.cell? ⟨b, off + j * 2, none⟩ = some (.int .u8 (k : Int)) ∧ W.cell? ⟨b, off + j * 2 + 1, none⟩ = some (.slice A1 n1 c1) ∧ W.cell? ⟨b', off' + j * 2, none⟩ = some (.int .u8 (k' : Int)) ∧ W.cell? ⟨b', off' + j * 2 + 1, none⟩ = some (.slice A2 n2 c2)) (first | (with_reducible exact S3.out) | go_keep)
            (first | (go_at_call 26; refine (hC.out _ HB.out.drew).mono ?_; rintro e w2 ⟨rfl, b2⟩; have B2 := Lib.hid (HB.out.drew.trans (b2.mono HB.out.size)); have S3 := Lib.hid (hS.out _ B2.out); clear b2))
          rename_i hHeld
          clear hHeld
          go_wp2_with fail
          go_roundw
          case rel => exact ⟨j + 1, by go_num, by omega, HT2.out, B2.out⟩
          case measure => simp [intOf]; omega
        · have hsb : sameB k zs k' zs' = false := by
            cases hv : sameB k zs k' zs' with
            | false => rfl
            | true => simp [sameB] at hv; exact absurd (by rw [hv.1, hv.2]) heq
          rw [hsb] at hC
          have HF := Lib.hid (show sameR (recsOf es) (recsOf es') = false by
            unfold sameR
            rw [decide_eq_false_iff_not]
            intro h
            have h3 := HX.out
            rw [h, HY.out] at h3
            exact heq (Option.some.inj h3).symm)
          clear hsb heq
          go_wp2_with fail
          go_region_held3 (fun W => W.cell? ⟨b, off + j * 2, none⟩ = some (.int .u8 (k : Int)) ∧ W.cell? ⟨b, off + j * 2 + 1, none⟩ = some (.slice A1 n1 c1) ∧ W.cell? ⟨b', off' + j * 2, none⟩ = some (.int .u8 (k' : Int)) ∧ W.cell? ⟨b', off' + j * 2 + 1, none⟩ = some (.slice A2 n2 c2)) (first | (with_reducible exact S3.out) | go_keep)
            (first | (go_at_call 26; refine (hC.out _ HB.out.drew).mono ?_; rintro e w2 ⟨rfl, b2⟩; have B2 := Lib.hid (HB.out.drew.trans (b2.mono HB.out.size)); have S3 := Lib.hid (hS.out _ B2.out); clear b2))
          rename_i hHeld
          clear hHeld
          go_wp2_with fail
          go_ret
          exact ⟨by rw [HF.out]; rfl, B2.out⟩
      · have HF := Lib.hid (show sameR (recsOf es) (recsOf es') = true by
          unfold sameR
          rw [decide_eq_true_eq]
          have h1 := HT.out
          rwa [List.take_of_length_le (by have := HL.out; omega), List.take_of_length_le (by have := HL'.out; omega)] at h1)
        have hI : ¬ (j : Int) < (n : Int) := by omega
        go_wp2_with fail
        go_ret
        exact ⟨by rw [HF.out]; rfl, HB.out⟩
  · have HF := Lib.hid (show sameR (recsOf es) (recsOf es') = false by
      unfold sameR
      rw [decide_eq_false_iff_not]
      intro h
      have h1 := HL.out
      rw [h, HL'.out] at h1
      omega)
    have hb1 : ((n : Int) == (n' : Int)) = false := by rw [beq_eq_false_iff_ne]; omega
    have hb2 : ((n : Int) != (n' : Int)) = true := by simp [bne, hb1]
    clear hne
    go_enter Try.func16, Try.ntmps16
    go_wp2_with fail
    go_ret
    exact ⟨by rw [HF.out]; rfl, Below.refl _ _⟩

def greatL (bn : Nat) (l : List RE) : Bool := ((l.take 31).any fun x => decide (45 < x.n)) || (decide (1500 < bn) || decide (30 < l.length))
theorem greatL_no {bn : Nat} {l : List RE} (h : greatL bn l = false) : bn ≤ 1500 ∧ l.length ≤ 30 ∧ ∀ x ∈ l, x.n ≤ 45 := by
  simp only [greatL, Bool.or_eq_false_iff, decide_eq_false_iff_not, List.any_eq_false, decide_eq_true_eq] at h
  refine ⟨by omega, by omega, fun x hx => ?_⟩
  have h1 := h.1 x (by rw [List.take_of_length_le (by omega)]; exact hx)
  omega
theorem greatL_yes {bn : Nat} {l : List RE} {j : Nat} {x : RE} (hj : j ≤ 30) (hx : l[j]? = some x) (h : 45 < x.n) : greatL bn l = true := by
  have h1 : (l.take 31)[j]? = some x := by rw [List.getElem?_take, if_pos (by omega)]; exact hx
  simp only [greatL, Bool.or_eq_true, List.any_eq_true, decide_eq_true_eq]
  exact .inl ⟨x, List.mem_of_getElem? h1, h⟩
theorem greatL_end {bn : Nat} {l : List RE} {j : Nat} (he : j = 31 ∨ j = l.length) (hj : j ≤ 31) (h : (l.take j).any (fun x => decide (45 < x.n)) = false) : greatL bn l = (decide (1500 < bn) || decide (30 < l.length)) := by
  have h1 : (l.take 31).any (fun x => decide (45 < x.n)) = false := by
    rcases he with rfl | rfl
    · exact h
    · rwa [List.take_of_length_le (by omega)] at h ⊢
  rw [greatL, h1, Bool.false_or]

set_option maxRecDepth 100000 in
set_option maxHeartbeats 1000000 in
theorem greatL_any (A : Option Addr) (n c : Nat) (s r : Int) (Ar : Option Addr) (m cr : Nat) (l : List RE) (B : Nat) (w : World) (hr : RdR w B Ar m l) (hB : B ≤ w.heap.size) :
    Calls Try.prog 8 #[diskV A n c s r, .slice Ar m cr] w (BoolPost (greatL n l) w) := by
  have hb0 : Below w.heap.size w (w.alloc (diskB A n c s r)) := (Below.refl _ w).alloc (Nat.le_refl _) _
  obtain ⟨W0, hW0⟩ : ∃ W0, w.alloc (diskB A n c s r) = W0 := ⟨_, rfl⟩
  have HX := Lib.hid (Whole.new w 24 #[.slice A n c, .int .i64 s, .int .i64 r])
  rw [hW0] at HX hb0
  obtain ⟨x0, x1, x2⟩ := HX.out.cells3
  have HB := Lib.hid hb0
  have HR := Lib.hid (hr.below (hb0.mono hB))
  have HW0 := Lib.hid hW0
  clear hr hb0 hW0
  go_enter Try.func8, Try.ntmps8
  go_wp2_with (rw [HW0.out])
  go_loop [5] (fun i => ∃ j : Nat, i = .int .i64 (j : Int) ∧ j ≤ m ∧ j ≤ 31 ∧ (l.take j).any (fun x => decide (45 < x.n)) = false) (fun i => 31 - (intOf i).toNat)
  case atStart => exact ⟨0, rfl, Nat.zero_le _, by omega, rfl⟩
  case round =>
    obtain ⟨j, rfl, hj, hj41, hT⟩ := hrel
    have HT := Lib.hid hT
    clear hT
    by_cases hlt : j < m
    · have hI : (j : Int) < (m : Int) := by omega
      by_cases h40 : j ≤ 30
      · have hjl : j < l.length := by rw [HR.out.1]; exact hlt
        obtain ⟨x, hx⟩ : ∃ x, l[j]? = some x := ⟨_, List.getElem?_eq_getElem hjl⟩
        obtain ⟨b, off, rfl, hblt, hc⟩ := HR.out.2.1 (by omega)
        obtain ⟨h1, h2⟩ := hc j x hx
        have HX2 := Lib.hid hx
        have HS : Hid ((l.take (j + 1)).any (fun x => decide (45 < x.n)) = ((l.take j).any (fun x => decide (45 < x.n)) || decide (45 < x.n))) := by
          rw [List.getElem?_eq_getElem hjl] at hx
          show (l.take (j + 1)).any (fun x => decide (45 < x.n)) = _
          rw [List.take_succ_eq_append_getElem hjl, Option.some.inj hx]
          simp
        clear hc hx hjl
        cases x with
        | mk k A' n' c' zs' =>
        simp only at h1 h2 HX2 HS
        have h40' : (j : Int) ≤ 30 := by omega
        by_cases h60 : 45 < n'
        · have HG := Lib.hid (greatL_yes (bn := n) h40 HX2.out h60)
          have h60' : (45 : Int) < (n' : Int) := by omega
          go_wp2_with fail
          go_ret
          exact ⟨by rw [HG.out]; rfl, HB.out⟩
        · have h60' : ¬ (45 : Int) < (n' : Int) := by omega
          have HD := Lib.hid (show decide (45 < n') = false by simpa using h60)
          go_wp2_with fail
          go_round
          case rel => exact ⟨j + 1, by go_num, by omega, by omega, by rw [HS.out, HT.out, HD.out]; rfl⟩
          case measure => simp [intOf]; omega
      · have hj31 : j = 31 := by omega
        have h40' : ¬ (j : Int) ≤ 30 := by omega
        have HG := Lib.hid (greatL_end (bn := n) (.inl hj31) hj41 HT.out)
        have hl := HR.out.1
        have h30 : decide (30 < l.length) = true := by rw [decide_eq_true_eq]; omega
        have h30' : (30 : Int) < (m : Int) := by omega
        have HH := Lib.hid h30
        clear h30
        by_cases hbn : (1500 : Int) < (n : Int)
        · have HN := Lib.hid (show decide (1500 < n) = true by rw [decide_eq_true_eq]; omega)
          go_wp2_with fail
          go_ret
          exact ⟨by rw [HG.out, HN.out]; rfl, HB.out⟩
        · go_wp2_with fail
          go_ret
          exact ⟨by rw [HG.out, HH.out, Bool.or_true]; rfl, HB.out⟩
    · have hI : ¬ (j : Int) < (m : Int) := by omega
      have hl := HR.out.1
      have HG := Lib.hid (greatL_end (bn := n) (.inr (by omega)) hj41 HT.out)
      by_cases hbn : (1500 : Int) < (n : Int)
      · have HN := Lib.hid (show decide (1500 < n) = true by rw [decide_eq_true_eq]; omega)
        go_wp2_with fail
        go_ret
        exact ⟨by rw [HG.out, HN.out]; rfl, HB.out⟩
      · have HN := Lib.hid (show decide (1500 < n) = false by rw [decide_eq_false_iff_not]; omega)
        have HE := Lib.hid (show decide (30 < l.length) = decide ((30 : Int) < (m : Int)) by rw [hl]; congr 1; simp; omega)
        go_wp2_with fail
        go_ret
        exact ⟨by rw [HG.out, HN.out, HE.out, Bool.false_or]; rfl, HB.out⟩

end Go.Proofs.Ytbkfpghpfaemeaa

/-
  The region of 'DiskOwn' in which a disk is told, made safe, and crashed: whatever the order. Conditions: those that each theorem names.
-/
namespace Go.Proofs.Ytbkfpghpfaemeaa
open Go.RowKit Go.Shelf

section
variable {K : Act → World → Prop} {Q : Exit → Act → World → Prop} {a : Act} {w : World} {dst : Option Tmp} {t : TypeId} {pos : String} {after : Array Edge} {x y : Operand}
set_option maxRecDepth 100000 in
theorem opD_load {b : Nat} {A : Option Addr} {n c : Nat} {s r : Int} (hx : a.eval x = .pointer (some ⟨b, 0, none⟩)) (hw : Whole w b 24 #[.slice A n c, .int .i64 s, .int .i64 r]) (h : K (a.put dst (diskV A n c s r)) w) :
    ({ dst := dst, op := .load 24 x, type := t, pos := pos, after := after, guard := none } : Oper).wp Try.prog a w K Q := by
  obtain ⟨c0, c1, c2⟩ := hw.cells3
  unfold Oper.wp execOp
  simp only [hx]
  go_simp
  exact h
set_option maxRecDepth 100000 in
theorem opD_move {v : Value} (hx : a.eval x = v) (h : K (a.put dst v) w) :
    ({ dst := dst, op := .move x, type := t, pos := pos, after := after, guard := none } : Oper).wp Try.prog a w K Q := by
  unfold Oper.wp execOp
  simp only [hx]
  go_simp
  exact h
set_option maxRecDepth 100000 in
theorem opD_alloc (h : K (a.put dst (.pointer (some ⟨w.heap.size, 0, none⟩))) (w.alloc zeroB)) :
    ({ dst := dst, op := .alloc 24, type := t, pos := pos, after := after, guard := none } : Oper).wp Try.prog a w K Q := by
  unfold Oper.wp execOp
  go_simp
  exact h
set_option maxRecDepth 100000 in
theorem opD_store {b : Nat} {A : Option Addr} {n c : Nat} {s r : Int} {u0 u1 u2 : Value} (hx : a.eval x = .pointer (some ⟨b, 0, none⟩)) (hy : a.eval y = diskV A n c s r) (hw : Whole w b 24 #[u0, u1, u2])
    (h : K a (setDisk w b (.slice A n c) (.int .i64 s) (.int .i64 r))) :
    ({ dst := none, op := .store 24 x y, type := t, pos := pos, after := after, guard := none } : Oper).wp Try.prog a w K Q := by
  have h0 := hw.frozen 0
  have h1 := hw.frozen 1
  have h2 := hw.frozen 2
  obtain ⟨c0, c1, c2⟩ := hw.cells3
  unfold Oper.wp execOp
  simp only [hx, hy]
  go_simp
  exact h
set_option maxRecDepth 100000 in
theorem opD_own {T : Ending → World → Prop} {vs : Value} (hx : a.eval x = vs) (hc : Calls Try.prog 33 #[vs] w T) (h : ∀ e w', T e w' → ∃ v, e = .returned v ∧ K (a.put dst v) w') :
    ({ dst := dst, op := .call { callee := .value (.func 33), args := #[x], argTypes := #[24] }, type := t, pos := pos, after := after, guard := none } : Oper).wp Try.prog a w K Q := by
  have hf : a.eval (.func 33) = .func (.func 33) #[] #[] := rfl
  unfold Oper.wp execOp
  simp only [resolve, List.map_toArray, List.map_cons, List.map_nil, hx, hf]
  go_simp
  refine hc.mono ?_
  intro e w' hT
  obtain ⟨v, rfl, hK⟩ := h e w' hT
  exact hK
end

set_option maxRecDepth 100000 in
/-- A store into a disk leaves a row of bytes. -/
theorem own_farDisk {w : World} {base n b : Nat} {v : Value} {xs : List Value} {cs : Array Value} (ho : w.ownsRow base 5 1 v n xs) (hw : Whole w b 24 cs) (v0 v1 v2 : Value) : (setDisk w b v0 v1 v2).ownsRow base 5 1 v n xs := by
  have hne := own_apart_of (by decide) ho hw
  exact ownsRow_setCell_other (ownsRow_setCell_other (ownsRow_setCell_other (a := ⟨b, 0, none⟩) ho hne _) (a := ⟨b, 1, none⟩) hne _) (a := ⟨b, 2, none⟩) hne _

abbrev own3Ds : List Nat := [13, 14, 15, 16, 17, 18, 19, 7, 8, 9]

/-- What holds behind any operations of the region that have come up. -/
structure Own3I (a0 : Act) (W0 : World) (A : Option Addr) (n c : Nat) (s r nv : Int) (D1 D2 D3 : Dk) (L : Nat → Bool) (a : Act) (w : World) (A1 : Option Addr) (c1 : Nat) (A2 : Option Addr) (c2 : Nat) (A3 : Option Addr) (c3 b1 b2 b3 : Nat) : Prop where
  agree : Agree own3Ds a0 a
  below : Below W0.heap.size W0 w
  x0 : L 0 = true → a.eval (.tmp 13) = diskV A n c s r
  x2 : L 2 = true → a.eval (.tmp 15) = diskV A n c s r
  x4 : L 4 = true → a.eval (.tmp 17) = diskV A n c s r
  x5 : L 5 = true → a.eval (.tmp 18) = .int .i64 nv
  p0 : L 1 = true → a.eval (.tmp 14) = diskV A1 D1.bs.length c1 D1.syn D1.room ∧ w.ownsRow W0.heap.size 5 1 (.slice A1 D1.bs.length c1) D1.bs.length (bv D1.bs)
  p1 : L 3 = true → a.eval (.tmp 16) = diskV A2 D2.bs.length c2 D2.syn D2.room ∧ w.ownsRow W0.heap.size 5 1 (.slice A2 D2.bs.length c2) D2.bs.length (bv D2.bs)
  p2 : L 6 = true → a.eval (.tmp 19) = diskV A3 D3.bs.length c3 D3.syn D3.room ∧ w.ownsRow W0.heap.size 5 1 (.slice A3 D3.bs.length c3) D3.bs.length (bv D3.bs)
  q0 : L 7 = true → a.eval (.tmp 7) = .pointer (some ⟨b1, 0, none⟩) ∧ W0.heap.size ≤ b1 ∧ Whole w b1 24 (if L 10 = true then #[.slice A1 D1.bs.length c1, .int .i64 D1.syn, .int .i64 D1.room] else #[.slice none 0 0, .int .i64 0, .int .i64 0])
  q1 : L 8 = true → a.eval (.tmp 8) = .pointer (some ⟨b2, 0, none⟩) ∧ W0.heap.size ≤ b2 ∧ Whole w b2 24 (if L 11 = true then #[.slice A2 D2.bs.length c2, .int .i64 D2.syn, .int .i64 D2.room] else #[.slice none 0 0, .int .i64 0, .int .i64 0])
  q2 : L 9 = true → a.eval (.tmp 9) = .pointer (some ⟨b3, 0, none⟩) ∧ W0.heap.size ≤ b3 ∧ Whole w b3 24 (if L 12 = true then #[.slice A3 D3.bs.length c3, .int .i64 D3.syn, .int .i64 D3.room] else #[.slice none 0 0, .int .i64 0, .int .i64 0])
  n01 : L 7 = true → L 8 = true → b1 ≠ b2
  n02 : L 7 = true → L 9 = true → b1 ≠ b3
  n12 : L 8 = true → L 9 = true → b2 ≠ b3

end Go.Proofs.Ytbkfpghpfaemeaa

/-
  The region of the document's own 'Same' (herdref03) in which both disks are told as they count: whatever the order. Conditions: those that each theorem names.
-/
namespace Go.Proofs.Ytbkfpghpfaemeaa
open Go.RowKit Go.Shelf

set_option maxRecDepth 100000 in
theorem opR_own {K : Act → World → Prop} {Q : Exit → Act → World → Prop} {a : Act} {w : World} {dst : Option Tmp} {t : TypeId} {pos : String} {after : Array Edge} {x : Operand} {T : Ending → World → Prop} {vs : Value} (hx : a.eval x = vs) (hc : Calls Try.prog 28 #[vs] w T) (h : ∀ e w', T e w' → ∃ v, e = .returned v ∧ K (a.put dst v) w') :
    ({ dst := dst, op := .call { callee := .value (.func 28), args := #[x], argTypes := #[24] }, type := t, pos := pos, after := after, guard := none } : Oper).wp Try.prog a w K Q := by
  have hf : a.eval (.func 28) = .func (.func 28) #[] #[] := rfl
  unfold Oper.wp execOp
  simp only [resolve, List.map_toArray, List.map_cons, List.map_nil, hx, hf]
  go_simp
  refine hc.mono ?_
  intro e w' hT
  obtain ⟨v, rfl, hK⟩ := h e w' hT
  exact hK

abbrev rsDs : List Nat := [5, 6, 7, 8]

/-- What holds behind any operations of the region that have come up. -/
structure RSI (a0 : Act) (w0 : World) (v0 v1 : Value) (cs0 cs1 : Array Value) (ob : List Nat) (K S R : Nat) (ob' : List Nat) (K' S' R' : Nat) (b0 b1 : Nat) (L : Nat → Bool) (a : Act) (w : World) (A1 : Option Addr) (c1 : Nat) (A2 : Option Addr) (c2 : Nat) : Prop where
  agree : Agree rsDs a0 a
  below : Below w0.heap.size w0 w
  x0 : L 0 = true → a.eval (.tmp 5) = v0
  x2 : L 2 = true → a.eval (.tmp 7) = v1
  p0 : L 1 = true → a.eval (.tmp 6) = diskV A1 K c1 S R ∧ w.ownsRow (w0.heap.size + 2) 5 1 (.slice A1 K c1) K (bv ob)
  p1 : L 3 = true → a.eval (.tmp 8) = diskV A2 K' c2 S' R' ∧ w.ownsRow (w0.heap.size + 2) 5 1 (.slice A2 K' c2) K' (bv ob')
  q0 : Whole w b0 24 (if L 4 = true then #[.slice A1 K c1, .int .i64 S, .int .i64 R] else cs0)
  q1 : Whole w b1 24 (if L 5 = true then #[.slice A2 K' c2, .int .i64 S', .int .i64 R'] else cs1)

set_option maxRecDepth 100000 in
theorem rs_region {ops : Array Oper} {Q : Exit → Act → World → Prop} {id : Nat} (hsize : ops.size = 6) (hlow : lowOnly ops = true)
    (o0 : At ops 0 (some 5) (.load 24 (.tmp 2)) 24 [])
    (o1 : At ops 1 (some 6) (.call { callee := .value (.func 28), args := #[.tmp 5], argTypes := #[24] }) 24 [0])
    (o2 : At ops 2 (some 7) (.load 24 (.tmp 3)) 24 [])
    (o3 : At ops 3 (some 8) (.call { callee := .value (.func 28), args := #[.tmp 7], argTypes := #[24] }) 24 [2])
    (o4 : At ops 4 none (.store 24 (.tmp 2) (.tmp 6)) 0 [1, 0])
    (o5 : At ops 5 none (.store 24 (.tmp 3) (.tmp 8)) 0 [3, 2])
    (a0 : Act) (hds : ∀ d ∈ rsDs, d < a0.tmps.size) (W0 w0 : World) (hW0 : Below w0.heap.size w0 W0) (A : Option Addr) (n c : Nat) (s r : Int) (A' : Option Addr) (n' c' : Nat) (s' r' : Int) (ob : List Nat) (K S R : Nat) (ob' : List Nat) (K' S' R' : Nat)
    (h2 : a0.eval (.tmp 2) = .pointer (some ⟨w0.heap.size, 0, none⟩)) (h3 : a0.eval (.tmp 3) = .pointer (some ⟨w0.heap.size + 1, 0, none⟩))
    (hx : Whole W0 w0.heap.size 24 #[.slice A n c, .int .i64 s, .int .i64 r]) (hy : Whole W0 (w0.heap.size + 1) 24 #[.slice A' n' c', .int .i64 s', .int .i64 r'])
    (k1 : ∀ W, Below w0.heap.size w0 W → Calls Try.prog 28 #[diskV A n c s r] W (DiskN K ob S R W))
    (k2 : ∀ W, Below w0.heap.size w0 W → Calls Try.prog 28 #[diskV A' n' c' s' r'] W (DiskN K' ob' S' R' W))
    (fin : ∀ σ w A1 c1 A2 c2, Below w0.heap.size w0 w → Whole w w0.heap.size 24 #[.slice A1 K c1, .int .i64 S, .int .i64 R] → Whole w (w0.heap.size + 1) 24 #[.slice A2 K' c2, .int .i64 S', .int .i64 R'] →
      w.ownsRow (w0.heap.size + 2) 5 1 (.slice A1 K c1) K (bv ob) → w.ownsRow (w0.heap.size + 2) 5 1 (.slice A2 K' c2) K' (bv ob') → Q .normal (lay σ rsDs a0) w) :
    (Code.region id ops true).wp Try.prog Q a0 W0 := by
  refine region_clo (by kernel_rfl) hlow (fun L a w => ∃ A1 c1 A2 c2, RSI a0 w0 (diskV A n c s r) (diskV A' n' c' s' r') #[.slice A n c, .int .i64 s, .int .i64 r] #[.slice A' n' c', .int .i64 s', .int .i64 r'] ob K S R ob' K' S' R' w0.heap.size (w0.heap.size + 1) L a w A1 c1 A2 c2) ?_ ?_ ?_
  · exact ⟨none, 0, none, 0, Agree.refl _ _, hW0.drew, by simp, by simp, by simp, by simp, by simpa using Whole.drew hx, by simpa using Whole.drew hy⟩
  · rintro i o L a w ho hi hclo hall ⟨A1, c1, A2, c2, I⟩
    have hlt : i < 6 := by rw [← hsize]; exact (Array.getElem?_eq_some_iff.1 ho).1
    have hz : ∀ d ∈ rsDs, d < a.tmps.size := fun d hd => by rw [I.agree.size]; exact hds d hd
    have hbs := I.below.size
    have hl1 := I.q1.lt
    rcases (by omega : i = 0 ∨ i = 1 ∨ i = 2 ∨ i = 3 ∨ i = 4 ∨ i = 5) with rfl | rfl | rfl | rfl | rfl | rfl
    · have ns := o4.not hclo (j := 0) (by simp) hi
      have q := I.q0
      rw [ns] at q
      refine o0.run fun pos after => opD_load (b := w0.heap.size) (by rw [I.agree.eval (by decide)]; exact h2) (by simpa using q) ⟨A1, c1, A2, c2, I.agree.put (by decide) _, I.below, ?_, ?_, ?_, ?_, ?_, ?_⟩
      · intro _; exact eval_new (hz _ (by decide)) _
      · simpa [eval_old] using I.x2
      · simpa [eval_old] using I.p0
      · simpa [eval_old] using I.p1
      · simpa [ns] using q
      · simpa using I.q1
    · have hd := o1.needs ho hall
      have ns := o4.not hclo (j := 1) (by simp) hi
      refine o1.run fun pos after => opR_own (I.x0 (hd 0 (by simp))) (k1 w I.below) ?_
      rintro e w' ⟨B', d', rfl, hown, hb⟩
      refine ⟨_, rfl, B', d', A2, c2, I.agree.put (by decide) _, I.below.trans (hb.mono hbs), ?_, ?_, ?_, ?_, ?_, ?_⟩
      · simpa [eval_old] using I.x0
      · simpa [eval_old] using I.x2
      · intro _; exact ⟨eval_new (hz _ (by decide)) _, own_weaker hown (by omega)⟩
      · intro hL; have h := I.p1 (by simpa using hL); exact ⟨by rw [eval_old (by decide)]; exact h.1, own_under h.2 hb⟩
      · have q := I.q0; rw [ns] at q; simpa [ns] using q.under hb
      · simpa using I.q1.under hb
    · have ns := o5.not hclo (j := 2) (by simp) hi
      have q := I.q1
      rw [ns] at q
      refine o2.run fun pos after => opD_load (b := w0.heap.size + 1) (by rw [I.agree.eval (by decide)]; exact h3) (by simpa using q) ⟨A1, c1, A2, c2, I.agree.put (by decide) _, I.below, ?_, ?_, ?_, ?_, ?_, ?_⟩
      · simpa [eval_old] using I.x0
      · intro _; exact eval_new (hz _ (by decide)) _
      · simpa [eval_old] using I.p0
      · simpa [eval_old] using I.p1
      · simpa using I.q0
      · simpa [ns] using q
    · have hd := o3.needs ho hall
      have ns := o5.not hclo (j := 3) (by simp) hi
      refine o3.run fun pos after => opR_own (I.x2 (hd 2 (by simp))) (k2 w I.below) ?_
      rintro e w' ⟨B', d', rfl, hown, hb⟩
      refine ⟨_, rfl, A1, c1, B', d', I.agree.put (by decide) _, I.below.trans (hb.mono hbs), ?_, ?_, ?_, ?_, ?_, ?_⟩
      · simpa [eval_old] using I.x0
      · simpa [eval_old] using I.x2
      · intro hL; have h := I.p0 (by simpa using hL); exact ⟨by rw [eval_old (by decide)]; exact h.1, own_under h.2 hb⟩
      · intro _; exact ⟨eval_new (hz _ (by decide)) _, own_weaker hown (by omega)⟩
      · simpa using I.q0.under hb
      · have q := I.q1; rw [ns] at q; simpa [ns] using q.under hb
    · have hd := o4.needs ho hall
      obtain ⟨ev, _⟩ := I.p0 (hd 1 (by simp))
      have wb := I.q0
      rw [hi] at wb
      simp only [Bool.false_eq_true, if_false] at wb
      refine o4.run fun pos after => opD_store (b := w0.heap.size) (by rw [I.agree.eval (by decide)]; exact h2) ev wb ⟨A1, c1, A2, c2, I.agree, below_setDisk I.below (Nat.le_refl _) _ _ _, ?_, ?_, ?_, ?_, ?_, ?_⟩
      · simpa using I.x0
      · simpa using I.x2
      · intro hL; have h := I.p0 (by simpa using hL); exact ⟨h.1, own_farDisk h.2 wb _ _ _⟩
      · intro hL; have h := I.p1 (by simpa using hL); exact ⟨h.1, own_farDisk h.2 wb _ _ _⟩
      · simpa using wb.disk _ _ _
      · simpa using I.q1.farDisk (by omega) _ _ _
    · have hd := o5.needs ho hall
      obtain ⟨ev, _⟩ := I.p1 (hd 3 (by simp))
      have wb := I.q1
      rw [hi] at wb
      simp only [Bool.false_eq_true, if_false] at wb
      refine o5.run fun pos after => opD_store (b := w0.heap.size + 1) (by rw [I.agree.eval (by decide)]; exact h3) ev wb ⟨A1, c1, A2, c2, I.agree, below_setDisk I.below (Nat.le_succ _) _ _ _, ?_, ?_, ?_, ?_, ?_, ?_⟩
      · simpa using I.x0
      · simpa using I.x2
      · intro hL; have h := I.p0 (by simpa using hL); exact ⟨h.1, own_farDisk h.2 wb _ _ _⟩
      · intro hL; have h := I.p1 (by simpa using hL); exact ⟨h.1, own_farDisk h.2 wb _ _ _⟩
      · simpa using I.q0.farDisk (by omega) _ _ _
      · simpa using wb.disk _ _ _
  · rintro L a w hall ⟨A1, c1, A2, c2, I⟩
    have w0' := I.q0
    have w1' := I.q1
    rw [if_pos (hall 4 (by omega))] at w0'
    rw [if_pos (hall 5 (by omega))] at w1'
    rw [I.agree.lay hds]
    exact fin _ w A1 c1 A2 c2 I.below w0' w1' (I.p0 (hall 1 (by omega))).2 (I.p1 (hall 3 (by omega))).2

end Go.Proofs.Ytbkfpghpfaemeaa

/-
  The document's own 'Same' (herdref03): it tells whether two disks count as the same. Conditions: those that the theorem names.
-/
namespace Go.Proofs.Ytbkfpghpfaemeaa
open Go.RowKit Go.Shelf

set_option maxRecDepth 100000 in
set_option maxHeartbeats 1000000 in
theorem refSame_any (A : Option Addr) (n c : Nat) (s r : Int) (bs : List Nat) (A' : Option Addr) (n' c' : Nat) (s' r' : Int) (bs' : List Nat) (w : World) (hr : Rd w w.heap.size A n (bv bs)) (hc : n ≤ c) (hnm : n ≤ 500000) (hby : ∀ x ∈ bs, x < 256) (hr' : Rd w w.heap.size A' n' (bv bs')) (hc' : n' ≤ c') (hnm' : n' ≤ 500000) (hby' : ∀ x ∈ bs', x < 256)
    {ob : List Nat} {K S R : Nat} (hD : cnt bs s r = ⟨ob, S, R⟩) (hK : ob.length = K) {ob' : List Nat} {K' S' R' : Nat} (hD' : cnt bs' s' r' = ⟨ob', S', R'⟩) (hK' : ob'.length = K') :
    Calls Try.prog 17 #[diskV A n c s r, diskV A' n' c' s' r'] w (fun e w' => e = .returned (.bool (decide ((⟨ob, S, R⟩ : Dk) = ⟨ob', S', R'⟩))) ∧ Below w.heap.size w w') := by
  have hok : (⟨ob, S, R⟩ : Dk).Ok := by have h := cnt_ok s r hby; rwa [hD] at h
  have hok' : (⟨ob', S', R'⟩ : Dk).Ok := by have h := cnt_ok s' r' hby'; rwa [hD'] at h
  have K1 := refOwn_hid A n c s r bs w hr hc hnm hD hK
  have K2 := refOwn_hid A' n' c' s' r' bs' w hr' hc' hnm' hD' hK'
  have X1 := Lib.hid ((Whole.new w 24 #[.slice A n c, .int .i64 s, .int .i64 r]).alloc (diskB A' n' c' s' r'))
  have Y1 := Lib.hid (by have := Whole.new (w.alloc (diskB A n c s r)) 24 #[.slice A' n' c', .int .i64 s', .int .i64 r']; simpa using this : Whole ((w.alloc (diskB A n c s r)).alloc (diskB A' n' c' s' r')) (w.heap.size + 1) 24 #[.slice A' n' c', .int .i64 s', .int .i64 r'])
  have B1 := Lib.hid (((Below.refl w.heap.size w).alloc (Nat.le_refl _) (diskB A n c s r)).alloc (by simp) (diskB A' n' c' s' r'))
  have HE := Lib.hid (strB_inj hok.byte hok'.byte)
  obtain ⟨d, hd⟩ : ∃ d, decide ((⟨ob, S, R⟩ : Dk) = ⟨ob', S', R'⟩) = d := ⟨_, rfl⟩
  have HD := Lib.hid hd
  rw [hd]
  clear hr hc hnm hby hr' hc' hnm' hby' hD hK hD' hK' hok hok' hd
  go_enter Try.func17, Try.ntmps17
  go_upto_region 1 with fail
  refine rs_region rfl (by kernel_rfl) ⟨_, rfl, rfl, rfl, rfl, rfl, by kernel_rfl⟩ ⟨_, rfl, rfl, rfl, rfl, rfl, by kernel_rfl⟩ ⟨_, rfl, rfl, rfl, rfl, rfl, by kernel_rfl⟩ ⟨_, rfl, rfl, rfl, rfl, rfl, by kernel_rfl⟩ ⟨_, rfl, rfl, rfl, rfl, rfl, by kernel_rfl⟩ ⟨_, rfl, rfl, rfl, rfl, rfl, by kernel_rfl⟩ _ ?_ _ w B1.out A n c s r A' n' c' s' r' ob K S R ob' K' S' R' rfl rfl X1.out Y1.out K1.out K2.out ?_
  · intro d hd
    simp only [List.mem_cons, List.not_mem_nil, or_false] at hd
    rcases hd with rfl | rfl | rfl | rfl <;> simp
  intro σ W0 A1 c1 A2 c2 B0 X0 Y0 o1 o2
  simp only [lay, List.foldl_cons, List.foldl_nil, Act.put, List.setIfInBounds_toArray, List.set_cons_zero, List.set_cons_succ]
  have q1 := run_string W0 A1 K c1 ob W0.heap.size (Rd.of_own o1)
  have q2 := run_string W0 A2 K' c2 ob' W0.heap.size (Rd.of_own o2)
  obtain ⟨s1, hs1⟩ : ∃ s, strB ob = s := ⟨_, rfl⟩
  obtain ⟨s2, hs2⟩ : ∃ s, strB ob' = s := ⟨_, rfl⟩
  rw [hs1] at q1 HE
  rw [hs2] at q2 HE
  obtain ⟨x0, x1, x2⟩ := X0.cells3
  obtain ⟨y0, y1, y2⟩ := Y0.cells3
  have HB0 := Lib.hid B0
  have he := HE.out
  have hdd := HD.out
  clear B0 X0 Y0 o1 o2 hs1 hs2 K1 K2 X1 Y1 B1
  by_cases e1 : ob = ob'
  · have g1 : (s1.toList == s2.toList) = true := by rw [he]; simpa using e1
    by_cases g2 : (S : Int) = (S' : Int)
    · by_cases g3 : (R : Int) = (R' : Int)
      · have e2 : S = S' := by omega
        have e3 : R = R' := by omega
        subst e1 e2 e3
        obtain rfl : d = true := by simpa using hdd.symm
        clear HE HD he hdd g2 g3
        go_wp2_with fail
        go_ret
        exact ⟨rfl, HB0.out⟩
      · have e3 : ¬ R = R' := by omega
        have g3' : ((R : Int) == (R' : Int)) = false := by rw [beq_eq_false_iff_ne]; exact g3
        obtain rfl : d = false := by simpa [e3] using hdd.symm
        have e2 : S = S' := by omega
        subst e2
        clear HE HD he hdd g2 e3 e1
        go_wp2_with fail
        go_ret
        exact ⟨rfl, HB0.out⟩
    · have e2 : ¬ S = S' := by omega
      have g2' : ((S : Int) == (S' : Int)) = false := by rw [beq_eq_false_iff_ne]; exact g2
      obtain rfl : d = false := by simpa [e2] using hdd.symm
      clear HE HD he hdd e1 e2
      go_wp2_with fail
      go_ret
      exact ⟨rfl, HB0.out⟩
  · have g1 : (s1.toList == s2.toList) = false := by rw [he]; simpa using e1
    obtain rfl : d = false := by simpa [e1] using hdd.symm
    clear HE HD he hdd e1
    go_wp2_with fail
    go_ret
    exact ⟨rfl, HB0.out⟩

end Go.Proofs.Ytbkfpghpfaemeaa

/-
  A region that draws its order, taken by hand under a condition: one step an operation, those whose guard is false too. Conditions: those that each theorem names.
-/
namespace Go.Proofs.Ytbkfpghpfaemeaa
open Go.RowKit Go.Shelf

section
variable {P : Program} {ops : Array Oper} {Q : Exit → Act → World → Prop} {S : World → Prop} {md : Region.Mode} {fuel i : Nat} {listed : Array Bool} {a : Act} {w : World} {d : Option Tmp} {op : Op} {t : TypeId} {pos : String} {after : Array Edge} {g : Option (Nat × Bool)}

set_option maxRecDepth 100000 in
/-- An operation that yields v in every world that meets S. -/
theorem takeH {v : Value} (hi : ops[i]? = some { dst := d, op := op, type := t, pos := pos, after := after, guard := g })
    (hs : Region.noSelect ops = true) (hf : Region.free md ops listed i = true) (hr : (Region.ready md ops listed).contains i = true)
    (hQ : ∀ c a w, Q (.panic c) (a.put d v) w → Q (.panic c) a w) (hw : Region.wanted { dst := d, op := op, type := t, pos := pos, after := after, guard := g } (yielded ops a.tmps) = true)
    (hy : ∀ w, S w → (execOp a.eval { dst := d, op := op, type := t, pos := pos, after := after, guard := g }).run P w = .ok (.value v) w) (hS : S w)
    (h : wpAnyH P md ops Q S fuel (listed.setIfInBounds i true) (a.put d v) w) : wpAnyH P md ops Q S (fuel + 1) listed a w :=
  wpAnyH_take hi hs hf hr hQ (Or.inl ⟨hw, hy⟩) hS h

set_option maxRecDepth 100000 in
/-- An operation whose guard says no. -/
theorem skipH (hi : ops[i]? = some { dst := d, op := op, type := t, pos := pos, after := after, guard := g })
    (hs : Region.noSelect ops = true) (hf : Region.free md ops listed i = true) (hr : (Region.ready md ops listed).contains i = true)
    (hQ : ∀ c a w, Q (.panic c) (a.put d undef) w → Q (.panic c) a w) (hw : Region.wanted { dst := d, op := op, type := t, pos := pos, after := after, guard := g } (yielded ops a.tmps) = false) (hS : S w)
    (h : wpAnyH P md ops Q S fuel (listed.setIfInBounds i true) (a.put d undef) w) : wpAnyH P md ops Q S (fuel + 1) listed a w :=
  wpAnyH_take hi hs hf hr hQ (Or.inr ⟨hw, rfl⟩) hS h

set_option maxRecDepth 100000 in
/-- An operation that is all that may come up. -/
theorem oneH (hi : ops[i]? = some { dst := d, op := op, type := t, pos := pos, after := after, guard := g }) (hr : Region.ready md ops listed = [i])
    (hw : Region.wanted { dst := d, op := op, type := t, pos := pos, after := after, guard := g } (yielded ops a.tmps) = true)
    (h : ∀ K' : Act → World → Prop, Shut (∀ a w, S w → (S w → wpAnyH P md ops Q S fuel (listed.setIfInBounds i true) a w) → K' a w) → ({ dst := d, op := op, type := t, pos := pos, after := after, guard := g } : Oper).wp P a w K' Q) : wpAnyH P md ops Q S (fuel + 1) listed a w :=
  wpAnyH_ready hr (by simp) (AllReadyH.cons hi (fun K' hK => by rw [if_pos hw]; exact h K' hK) AllReadyH.nil)

set_option maxRecDepth 100000 in
/-- Two operations of which either may come up. -/
theorem twoH {j : Nat} {d' : Option Tmp} {op' : Op} {t' : TypeId} {pos' : String} {after' : Array Edge} {g' : Option (Nat × Bool)} (hi : ops[i]? = some { dst := d, op := op, type := t, pos := pos, after := after, guard := g }) (hj : ops[j]? = some { dst := d', op := op', type := t', pos := pos', after := after', guard := g' }) (hr : Region.ready md ops listed = [i, j])
    (hw : Region.wanted { dst := d, op := op, type := t, pos := pos, after := after, guard := g } (yielded ops a.tmps) = true) (hw' : Region.wanted { dst := d', op := op', type := t', pos := pos', after := after', guard := g' } (yielded ops a.tmps) = true)
    (h : ∀ K' : Act → World → Prop, Shut (∀ a w, S w → (S w → wpAnyH P md ops Q S fuel (listed.setIfInBounds i true) a w) → K' a w) → ({ dst := d, op := op, type := t, pos := pos, after := after, guard := g } : Oper).wp P a w K' Q)
    (h' : ∀ K' : Act → World → Prop, Shut (∀ a w, S w → (S w → wpAnyH P md ops Q S fuel (listed.setIfInBounds j true) a w) → K' a w) → ({ dst := d', op := op', type := t', pos := pos', after := after', guard := g' } : Oper).wp P a w K' Q) : wpAnyH P md ops Q S (fuel + 1) listed a w :=
  wpAnyH_ready hr (by simp) (AllReadyH.cons hi (fun K' hK => by rw [if_pos hw]; exact h K' hK) (AllReadyH.cons hj (fun K' hK => by rw [if_pos hw']; exact h' K' hK) AllReadyH.nil))

set_option maxRecDepth 100000 in
/-- An append whose run is known. -/
theorem wp_appendH {P : Program} {K : Act → World → Prop} {Q : Exit → Act → World → Prop} {a : Act} {w w' : World} {dst : Option Tmp} {u t : TypeId} {pos : String} {after : Array Edge} {g : Option (Nat × Bool)} {x y : Operand} {vs vx v' : Value} (hx : a.eval x = vs) (hy : a.eval y = vx) (hr : (Builtin.append_ #[u, u] t #[vs, vx]).run P w = .ok v' w') (h : K (a.put dst v') w') :
    ({ dst := dst, op := .call { callee := .builtin .append, args := #[x, y], argTypes := #[u, u] }, type := t, pos := pos, after := after, guard := g } : Oper).wp P a w K Q := by
  unfold Oper.wp execOp
  simp only [resolve, invoke, builtin, Sem.run_bind, Sem.run_pure, Result.andThen_ok, List.map_toArray, List.map_cons, List.map_nil, hx, hy, hr]
  exact h
end

end Go.Proofs.Ytbkfpghpfaemeaa

/-
  What the statements over logs always try: each call, its answer written out. Conditions: those that each theorem names.
-/
namespace Go.Proofs.Ytbkfpghpfaemeaa
open Go.RowKit Go.Shelf

abbrev bootR : PR := (1, [])
abbrev doneR : PR := (16, [])
theorem okR_boot : okR bootR := (by kernel_rfl : mayB 1 [] = true)
theorem okR_done : okR doneR := (by kernel_rfl : mayB 16 [] = true)
theorem not_ok_zero : ¬ okR (0, []) := by
  have h : mayB 0 [] = false := by kernel_rfl
  intro h2; unfold okR at h2; rw [h] at h2; cases h2
theorem boot_len : (lfr bootR).length = 7 := by kernel_rfl
theorem done_len : (lfr doneR).length = 7 := by kernel_rfl
theorem ok_one : allOk [bootR] := by intro r hr; simp only [List.mem_singleton] at hr; rw [hr]; exact okR_boot
theorem ok_two : allOk [doneR, doneR] := by intro r hr; simp only [List.mem_cons, List.not_mem_nil, or_false, or_self] at hr; rw [hr]; exact okR_done
abbrev L3 : List PR := [bootR, doneR, doneR]
theorem ok_three : allOk L3 := by
  intro r hr
  simp only [List.mem_cons, List.not_mem_nil, or_false, or_self] at hr
  rcases hr with hr | hr
  · rw [hr]; exact okR_boot
  · rw [hr]; exact okR_done
theorem len_one : (lbytes [bootR]).length = 7 := by rw [lbytes_one, boot_len]
theorem len_two : (lbytes [doneR, doneR]).length = 14 := by rw [lbytes_cons, lbytes_one, List.length_append, done_len]
theorem len_three : (lbytes L3).length = 21 := by rw [lbytes_cons, List.length_append, len_two, boot_len]

section
variable {A : Option Addr} {c : Nat} {W : World}
theorem rd_nil (W : World) (B : Nat) (A : Option Addr) : Rd W B A 0 (bv []) := ⟨rfl, fun h => absurd h (by omega)⟩
theorem wl_scan : Calls Try.prog 10 #[.slice none 0 0] W fun e w' => (∃ A c, e = .returned (.tuple #[.slice A 0 c, .int .i64 0])) ∧ Below W.heap.size W w' := by
  refine (scan_any none 0 0 [] [] 0 W.heap.size W ⟨rfl, rfl, by simp, by simpa using not_isRec_nil⟩ (rd_nil _ _ _) (Nat.le_refl _) (by simp) (by omega) (Nat.le_refl _)).mono ?_
  rintro e w' ⟨A, c, rfl, _, h⟩
  exact ⟨⟨A, c, rfl⟩, h⟩
theorem wl_new : Calls Try.prog 23 #[.int .i64 200] W (DiskN 0 [] 0 200 W) := refNew_any 200 W (by kernel_rfl)
theorem cnt_at {bs : List Nat} {s r : Nat} (h1 : s ≤ bs.length) (h2 : bs.length ≤ r) (h3 : r ≤ 65536) (hb : ∀ x ∈ bs, x < 256) : cnt bs s r = ⟨bs, s, r⟩ := cnt_self (D := ⟨bs, s, r⟩) ⟨h1, h2, h3, hb⟩
theorem wl_add1 {b : Nat} (hr : Rd W W.heap.size A 0 (bv [])) (hl : RdR W W.heap.size (some ⟨b, 0, none⟩) 1 [⟨1, none, 0, 0, []⟩]) :
    Calls Try.prog 12 #[diskV A 0 c 0 200, .slice (some ⟨b, 0, none⟩) 1 1] W (DiskNE 7 (lbytes [bootR]) 0 200 0 W) := by
  have h := logAdd_any A 0 c 0 200 [] _ 1 1 _ [bootR] rfl W hr (Nat.zero_le _) (by simp) hl (by omega) (cnt_at (bs := []) (s := 0) (r := 200) (Nat.le_refl _) (by simp) (by omega) (by simp))
  rw [addD_yes ok_one (by rw [len_one]; simp)] at h
  unfold DkE at h
  simp only [List.nil_append, len_one] at h
  exact h
theorem wl_sync (hr : Rd W W.heap.size A 7 (bv (lbytes [bootR]))) (hc : 7 ≤ c) : Calls Try.prog 24 #[diskV A 7 c 0 200] W (DiskN 7 (lbytes [bootR]) 7 200 W) :=
  refSync_any A 7 c 0 200 _ W hr hc (by omega) (cnt_at (s := 0) (r := 200) (Nat.zero_le _) (by rw [len_one]; omega) (by omega) (lbytes_byte _)) len_one
theorem wl_add2 {b : Nat} (hr : Rd W W.heap.size A 7 (bv (lbytes [bootR]))) (hc : 7 ≤ c) (hl : RdR W W.heap.size (some ⟨b, 0, none⟩) 2 [⟨16, none, 0, 0, []⟩, ⟨16, none, 0, 0, []⟩]) :
    Calls Try.prog 12 #[diskV A 7 c 7 200, .slice (some ⟨b, 0, none⟩) 2 2] W (DiskNE 21 (lbytes L3) 7 200 0 W) := by
  have h := logAdd_any A 7 c 7 200 _ _ 2 2 _ [doneR, doneR] rfl W hr hc (lbytes_byte _) hl (by omega) (cnt_at (s := 7) (r := 200) (by rw [len_one]; omega) (by rw [len_one]; omega) (by omega) (lbytes_byte _))
  rw [addD_yes ok_two (by simp only [len_one, len_two]; omega)] at h
  have e : lbytes [bootR] ++ lbytes [doneR, doneR] = lbytes L3 := by rw [← lbytes_app]; rfl
  unfold DkE at h
  simp only [e, len_three] at h
  exact h
theorem wl_cnt3 : cnt (lbytes L3) (7 : Nat) (200 : Nat) = ⟨lbytes L3, 7, 200⟩ := cnt_at (by rw [len_three]; omega) (by rw [len_three]; omega) (by omega) (lbytes_byte _)
theorem wl_crash (hr : Rd W W.heap.size A 21 (bv (lbytes L3))) (hc : 21 ≤ c) : Calls Try.prog 25 #[diskV A 21 c 7 200, .int .i64 1] W (DiskN 8 ((lbytes L3).take 8) 8 200 W) :=
  refCrash_any A 21 c 7 200 _ W hr hc (by omega) wl_cnt3 len_three 1 (by kernel_rfl)
theorem wl_log8 : LogIs ((lbytes L3).take 8) [bootR] 7 := by
  obtain ⟨j, hj, h1, h2⟩ := log_cut (C := 8) ok_three
  have h3 := h2 1 (by simp) (by rw [show L3.take 1 = [bootR] from rfl, len_one]; omega)
  have h4 := h1.le
  rw [List.length_take] at h4
  have h5 : j = 1 := by
    rcases (by simp at hj; omega : j = 1 ∨ j = 2 ∨ j = 3) with h | h | h
    · exact h
    · subst h
      rw [show L3.take 2 = [bootR, doneR] from rfl, lbytes_cons, lbytes_one, List.length_append, boot_len, done_len] at h4
      omega
    · subst h
      rw [show L3.take 3 = L3 from rfl, len_three] at h4
      omega
  subst h5
  rw [show L3.take 1 = [bootR] from rfl, len_one] at h1
  exact h1
theorem wl_open8 (hr : Rd W W.heap.size A 8 (bv ((lbytes L3).take 8))) (hc : 8 ≤ c) : Calls Try.prog 14 #[diskV A 8 c 8 200] W fun e w' => (∃ A c Al cl, e = .returned (.tuple #[diskV A 7 c 7 200, .slice Al 1 cl])) ∧ Below W.heap.size W w' := by
  have hl : ((lbytes L3).take 8).length = 8 := by rw [List.length_take, len_three]; omega
  refine (logOpen_any A 8 c 8 200 _ W hr hc (fun x hx => lbytes_byte _ x (List.mem_of_mem_take hx)) (cnt_at (s := 8) (r := 200) (by omega) (by omega) (by omega) (fun x hx => lbytes_byte _ x (List.mem_of_mem_take hx))) wl_log8).mono ?_
  rintro e w' ⟨A, c, Al, cl, rfl, _, _, h⟩
  exact ⟨⟨A, c, Al, cl, rfl⟩, h⟩
theorem wl_log3 : LogIs (lbytes L3) L3 21 := by have h := logIs_all ok_three; rwa [len_three] at h
theorem wl_open (hr : Rd W W.heap.size A 21 (bv (lbytes L3))) (hc : 21 ≤ c) : Calls Try.prog 14 #[diskV A 21 c 7 200] W fun e w' => (∃ A c Al cl, e = .returned (.tuple #[diskV A 21 c 21 200, .slice Al 3 cl])) ∧ Below W.heap.size W w' := by
  refine (logOpen_any A 21 c 7 200 _ W hr hc (lbytes_byte _) wl_cnt3 wl_log3).mono ?_
  rintro e w' ⟨A, c, Al, cl, rfl, _, _, h⟩
  exact ⟨⟨A, c, Al, cl, rfl⟩, h⟩
theorem wl_addz {b : Nat} (hr : Rd W W.heap.size A 21 (bv (lbytes L3))) (hc : 21 ≤ c) (hl : RdR W W.heap.size (some ⟨b, 0, none⟩) 1 [⟨0, none, 0, 0, []⟩]) :
    Calls Try.prog 12 #[diskV A 21 c 7 200, .slice (some ⟨b, 0, none⟩) 1 1] W fun e w' => (∃ A c, e = .returned (.tuple #[diskV A 21 c 7 200, .int .i64 2])) ∧ Below W.heap.size W w' := by
  have h := logAdd_any A 21 c 7 200 _ _ 1 1 _ [(0, [])] rfl W hr hc (lbytes_byte _) hl (by omega) wl_cnt3
  rw [addD_no (fun h => not_ok_zero (h _ (by simp)))] at h
  refine h.mono ?_
  rintro e w' ⟨A, c, he, _, h⟩
  simp only [len_three] at he
  exact ⟨⟨A, c, he⟩, h⟩
theorem wl_safe (hr : Rd W W.heap.size A 21 (bv (lbytes L3))) (hc : 21 ≤ c) : Calls Try.prog 18 #[diskV A 21 c 7 200] W fun e w' => (∃ A c, e = .returned (.slice A 1 c)) ∧ Below W.heap.size W w' := by
  have hlog : LogIs ((lbytes L3).take 7) [bootR] 7 := by
    have e : (lbytes L3).take 7 = lbytes [bootR] := by
      rw [show L3 = [bootR] ++ [doneR, doneR] from rfl, lbytes_app, List.take_left' len_one]
    rw [e]
    have h := logIs_all ok_one
    rwa [len_one] at h
  refine (logSafe_any A 21 c 7 200 _ W hr hc (lbytes_byte _) wl_cnt3 hlog).mono ?_
  rintro e w' ⟨A, c, rfl, _, h⟩
  exact ⟨⟨A, c, rfl⟩, h⟩
theorem wl_long1 {b : Nat} (hl : RdR W W.heap.size (some ⟨b, 0, none⟩) 1 [⟨1, none, 0, 0, []⟩]) : Calls Try.prog 20 #[.slice (some ⟨b, 0, none⟩) 1 1] W fun e w' => e = .returned (.int .i64 7) ∧ Below W.heap.size W w' := by
  have h := logLong_any _ 1 1 _ [bootR] rfl W.heap.size W hl (Nat.le_refl _) (by omega)
  unfold LenIs at h
  rw [lenOf_yes ok_one, len_one] at h
  exact h
theorem wl_longz {b : Nat} (hl : RdR W W.heap.size (some ⟨b, 0, none⟩) 1 [⟨0, none, 0, 0, []⟩]) : Calls Try.prog 20 #[.slice (some ⟨b, 0, none⟩) 1 1] W fun e w' => e = .returned (.int .i64 (-1)) ∧ Below W.heap.size W w' := by
  have h := logLong_any _ 1 1 _ [(0, [])] rfl W.heap.size W hl (Nat.le_refl _) (by omega)
  unfold LenIs at h
  rw [lenOf_no (fun h => not_ok_zero (h _ (by simp)))] at h
  exact h
end

end Go.Proofs.Ytbkfpghpfaemeaa
