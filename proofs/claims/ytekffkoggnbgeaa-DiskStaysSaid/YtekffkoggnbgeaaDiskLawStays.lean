/-
  The walk of the statement 'DiskStays': it answers true, and nothing that was there turns. Conditions: none.
-/
import Derived.Test.YtekffkoggnbgeaaDiskLawRoom
import Derived.Test.YtekffkoggnbgeaaDiskLawOwn
import Derived.Test.YtekffkoggnbgeaaDiskOpen
import Derived.Test.YtekffkoggnbgeaaHand
import Derived.Deep.DeepCutAuto
namespace Go.Proofs.Ytekffkoggnbgeaa
open Go.RowKit Go.Shelf

theorem opH_alloc {K : Act → World → Prop} {Q : Exit → Act → World → Prop} {a : Act} {w : World} {dst : Option Tmp} {t : TypeId} {pos : String} {after : Array Edge} (h : K (a.put dst (.pointer (some ⟨w.heap.size, 0, none⟩))) (w.alloc zeroB)) :
    ({ dst := dst, op := .alloc 24, type := t, pos := pos, after := after, guard := none } : Oper).wp Try.prog a w K Q := by
  unfold Oper.wp execOp
  go_simp
  exact h
theorem opH_store {K : Act → World → Prop} {Q : Exit → Act → World → Prop} {a : Act} {w : World} {t : TypeId} {pos : String} {after : Array Edge} {x y : Operand} {b : Nat} {A : Option Addr} {n c : Nat} {s r : Int} {u0 u1 u2 : Value} (hx : a.eval x = .pointer (some ⟨b, 0, none⟩)) (hy : a.eval y = diskV A n c s r) (hw : Whole w b 24 #[u0, u1, u2])
    (h : K a (setDisk w b (.slice A n c) (.int .i64 s) (.int .i64 r))) :
    ({ dst := none, op := .store 24 x y, type := t, pos := pos, after := after, guard := none } : Oper).wp Try.prog a w K Q := by
  have h0 := hw.frozen 0
  have h1 := hw.frozen 1
  have h2 := hw.frozen 2
  obtain ⟨c0, c1, c2⟩ := hw.cells3
  unfold Oper.wp execOp
  simp only [hx, hy]
  go_simp
  exact h

set_option maxRecDepth 100000 in
set_option maxHeartbeats 800000 in
theorem diskStays_out (A : Option Addr) (n c : Nat) (s r : Int) (A1 : Option Addr) (n1 c1 : Nat) (A2 : Option Addr) (n2 c2 : Nat) (w : World) (h : 400 < n ∨ (n ≤ 400 ∧ 20 < n1)) :
    Calls Try.prog 4 #[diskV A n c s r, .slice A1 n1 c1, .slice A2 n2 c2] w (TruePost w) := by
  have HB := Lib.hid (((Below.refl w.heap.size w).alloc (Nat.le_refl _) (diskB A n c s r)).alloc (by simp) (diskB A n c s r))
  rcases h with h | ⟨h, h2⟩
  · have HG := Lib.hid (fun W => greatD_any A n c s r W (b := true) (by simpa using h))
    clear h
    go_enter Try.func4, Try.ntmps4
    go_wp2_with fail
    refine (HG.out _).mono ?_
    rintro e w1 ⟨rfl, rfl⟩
    go_wp2_with fail
    refine (wakesD_any _).mono ?_
    rintro e w2 ⟨rfl, b2⟩
    have B2 := Lib.hid (HB.out.trans (b2.mono HB.out.size))
    clear b2
    go_wp2_with fail
    go_ret
    exact ⟨rfl, B2.out⟩
  · have HG := Lib.hid (fun W => greatD_any A n c s r W (b := false) (by simpa using h))
    have h2' : (20 : Int) < (n1 : Int) := by omega
    clear h h2
    go_enter Try.func4, Try.ntmps4
    go_wp2_with fail
    refine (HG.out _).mono ?_
    rintro e w1 ⟨rfl, rfl⟩
    go_wp2_with fail
    refine (wakesD_any _).mono ?_
    rintro e w2 ⟨rfl, b2⟩
    have B2 := Lib.hid (HB.out.trans (b2.mono HB.out.size))
    clear b2
    go_wp2_with fail
    go_ret
    exact ⟨rfl, B2.out⟩

/-- What 'Append' answers, with room or without: an error's number, the bytes. -/
structure Appd (bs x : List Nat) (sy R : Nat) (ab : List Nat) (E : Int) : Prop where
  what : (E = 0 ∧ ab = bs ++ x ∧ bs.length + x.length ≤ R) ∨ (E = 30 ∧ ab = bs ∧ ¬ bs.length + x.length ≤ R)
theorem Appd.head {bs x : List Nat} {sy R : Nat} {ab : List Nat} {E : Int} (h : Appd bs x sy R ab E) : ∃ t, ab = bs ++ t := by
  rcases h.what with ⟨_, h, _⟩ | ⟨_, h, _⟩
  · exact ⟨x, h⟩
  · exact ⟨[], by simpa using h⟩
/-- 'append(append([]byte{}, a...), b...)': both run, and what comes reads as both. -/
theorem run_pair (W : World) (B : Nat) (A1 A2 : Option Addr) (m1 c1 m2 c2 : Nat) (a b : List Nat) (h1 : Rd W B A1 m1 (bv a)) (h2 : Rd W B A2 m2 (bv b)) (hB : B ≤ W.heap.size) (hm : m1 + m2 ≤ 1000000) (g : Nat) (hg : W.heap.size = g) :
    ∃ v1 W1 A3 c3 W2, (Builtin.append_ #[22, 22] 22 #[.slice (some ⟨g, 0, none⟩) 0 0, .slice A1 m1 c1]).run Try.prog (W.alloc (.cells #[] 5)) = .ok v1 W1 ∧
      (Builtin.append_ #[22, 22] 22 #[v1, .slice A2 m2 c2]).run Try.prog W1 = .ok (.slice A3 (m1 + m2) c3) W2 ∧ Rd W2 W2.heap.size A3 (m1 + m2) (bv (a ++ b)) ∧ Below W.heap.size W W1 ∧ Below W.heap.size W W2 := by
  obtain ⟨A', c', W1, r1, o1, b1⟩ := run_copy W B A1 m1 c1 a h1 hB (by omega) g hg
  obtain ⟨v2, W2, r2, o2, g2⟩ := run_app W1 W.heap.size (.slice A' m1 c') m1 _ o1 B A2 m2 c2 b (h2.below (b1.mono hB)) (by omega) b1.size
  rw [← bv_append] at o2
  obtain ⟨A3, c3, rfl⟩ := own_form o2
  exact ⟨_, W1, A3, c3, W2, r1, r2, Rd.of_own o2, b1, b1.trans (below_row o1 g2 b1.size)⟩
theorem append_some {bs x : List Nat} {sy R : Nat} (hok : (⟨bs, sy, R⟩ : Dk).Ok) (hx : ∀ y ∈ x, y < 256) : ∃ ab E, Appd bs x sy R ab E ∧ (⟨ab, sy, R⟩ : Dk).Ok ∧ ∀ (W : World) (A : Option Addr) (c : Nat) (Ax : Option Addr) (nx cx : Nat), Rd W W.heap.size A bs.length (bv bs) → bs.length ≤ c → Rd W W.heap.size Ax nx (bv x) → nx ≤ cx → cx ≤ maxLen → nx ≤ 100000 →
    Calls Try.prog 10 #[diskV A bs.length c sy R, .slice Ax nx cx] W (DiskNE ab.length ab sy R E W) := by
  by_cases hf : bs.length + x.length ≤ R
  · refine ⟨bs ++ x, 0, ⟨.inl ⟨rfl, rfl, hf⟩⟩, plus_ok hok hx hf, fun W A c Ax nx cx h1 h2 h3 h4 h5 h6 => ?_⟩
    have h := append_N (W := W) (D := ⟨bs, sy, R⟩) (cnt_self hok) h1 h2 hok.byte h3 h4 h5 hx h6 hf
    rw [List.length_append]
    exact h
  · refine ⟨bs, 30, ⟨.inr ⟨rfl, rfl, hf⟩⟩, hok, fun W A c Ax nx cx h1 h2 h3 h4 h5 h6 => ?_⟩
    exact append_full (W := W) (D := ⟨bs, sy, R⟩) (cnt_self hok) h1 h2 hok.byte h3 h4 h5 hx h6 hf

set_option maxRecDepth 100000 in
set_option maxHeartbeats 8000000 in
theorem diskStays_in (A : Option Addr) (n c : Nat) (s r : Int) (bs : List Nat) (A1 : Option Addr) (n1 c1 : Nat) (l : List BE) (A2 : Option Addr) (n2 c2 : Nat) (zs : List Int) (w : World) (hr : Rd w w.heap.size A n (bv bs)) (hc : n ≤ c) (hby : ∀ x ∈ bs, x < 256) (hl : RdB w w.heap.size A1 n1 l) (hz : Rd w w.heap.size A2 n2 (iv zs)) (hn : n ≤ 400) (hn1 : n1 ≤ 20) (bs0 : List Nat) (sy0 R : Nat) (hD : cnt bs s r = ⟨bs0, sy0, R⟩) :
    Calls Try.prog 4 #[diskV A n c s r, .slice A1 n1 c1, .slice A2 n2 c2] w (TruePost w) := by
  have hok : (⟨bs0, sy0, R⟩ : Dk).Ok := by rw [← hD]; exact cnt_ok s r hby
  have hRm : R ≤ 65536 := hok.room
  have HB := Lib.hid (((Below.refl w.heap.size w).alloc (Nat.le_refl _) (diskB A n c s r)).alloc (by simp) (diskB A n c s r))
  have HG := Lib.hid (fun W => greatD_any A n c s r W (b := false) (by simpa using hn))
  have HX := Lib.hid ((Whole.new w 24 #[.slice A n c, .int .i64 s, .int .i64 r]).alloc (diskB A n c s r))
  have HOw : Hid (∀ W, Below w.heap.size w W → Calls Try.prog 14 #[diskV A n c s r] W (DiskN bs0.length bs0 sy0 R W)) := fun W hW => by
    have h := own_any A n c s r bs w.heap.size W (hr.below hW) hW.size hc
    rw [hD] at h
    exact h
  have d2 : decide ((20 : Int) < (n1 : Int)) = false := by simp; omega
  have d3 : decide (bs0.length < sy0) = false := by have := hok.syn; simp; omega
  have d5 : decide ((sy0 : Int) < 0) = false := by simp
  have HLr := Lib.hid hl
  have HZr := Lib.hid hz
  have HOK0 := Lib.hid hok
  clear hr hby hD hok hl hz
  go_enter Try.func4, Try.ntmps4
  go_wp2_with fail
  refine (HG.out _).mono ?_
  rintro e w1 ⟨rfl, rfl⟩
  go_wp2_with fail
  refine (HOw.out _ HB.out).mono ?_
  rintro e w2 ⟨A3, c3, rfl, o3, b3⟩
  have X3 := HX.out.under b3
  obtain ⟨W3, hW3⟩ : ∃ W, setDisk w2 w.heap.size (.slice A3 bs0.length c3) (.int .i64 sy0) (.int .i64 R) = W := ⟨_, rfl⟩
  have B3 : Below w.heap.size w W3 := by rw [← hW3]; exact below_setDisk (HB.out.trans (b3.mono HB.out.size)) (Nat.le_refl _) _ _ _
  have Y3 : Whole W3 w.heap.size 24 #[.slice A3 bs0.length c3, .int .i64 sy0, .int .i64 R] := by rw [← hW3]; exact X3.disk _ _ _
  have O3 : W3.ownsRow (w.heap.size + 1 + 1) 5 1 (.slice A3 bs0.length c3) bs0.length (bv bs0) := by rw [← hW3]; have h := own_setDisk o3 (b := w.heap.size) (by simp; omega) (.slice A3 bs0.length c3) (.int .i64 sy0) (.int .i64 R); simpa using h
  have hW3' : ((w2.setCell ⟨w.heap.size, 0, none⟩ (.slice A3 bs0.length c3)).setCell ⟨w.heap.size, 1, none⟩ (.int .i64 sy0)).setCell ⟨w.heap.size, 2, none⟩ (.int .i64 R) = W3 := hW3
  have R3 := Rd.of_own O3
  have C3 := own_cap O3
  have f0 := X3.frozen 0
  have f1 := X3.frozen 1
  have f2 := X3.frozen 2
  obtain ⟨x0, x1, x2⟩ := X3.cells3
  have hs0 : sy0 ≤ bs0.length := HOK0.out.syn
  have hl0 : bs0.length ≤ R := HOK0.out.len
  obtain ⟨A7, c7, W4, e4, o4, b4⟩ := run_copy W3 W3.heap.size A3 sy0 c3 (bs0.take sy0) (by have h := R3.take hs0; simp only [bv, ← List.map_take] at h; exact h) (Nat.le_refl _) (by omega) W3.heap.size rfl
  have HE4 := Lib.hid e4
  have HH3 := Lib.hid (fun W => run_head A3 bs0.length c3 sy0 (by omega) W)
  have Y4 := Lib.hid (Y3.under b4)
  have HY3 := Lib.hid Y3
  have B4 := Lib.hid (B3.trans (b4.mono B3.size))
  have R34 := Lib.hid (own_under (own_weaker O3 (by omega)) b4 : W4.ownsRow (w.heap.size + 1) 5 1 (.slice A3 bs0.length c3) bs0.length (bv bs0))
  have R74 := Lib.hid (own_weaker o4 (by have := Y3.lt; omega) : W4.ownsRow (w.heap.size + 1) 5 1 (.slice A7 sy0 c7) sy0 (bv (bs0.take sy0)))
  have HW3 := Lib.hid hW3'
  have L3 := Y3.lt
  clear o3 b3 X3 hW3 B3 Y3 O3 R3 e4 o4 b4 hW3' HOw HX HG hs0 hl0
  go_wp2_with (rw [HW3.out]; clear x0 x1 x2 f0 f1 f2; obtain ⟨x0, x1, x2⟩ := HY3.out.cells3; have hh := HH3.out; go_wp2_with (at_builtin; refine wpList_app (by rfl) _ _ _ rfl _ _ _ _ rfl rfl HE4.out ?_))
  clear x0 x1 x2 hh HE4 HH3 HW3 HY3
  go_loopw [7, 8] (fun s7 s8 wr => ∃ (k : Nat) (bs : List Nat) (sy : Nat) (A3 : Option Addr) (c3 : Nat) (A7 : Option Addr) (c7 : Nat), s8 = .int .i64 (k : Int) ∧ k ≤ n1 ∧ s7 = .slice A7 sy c7 ∧ (⟨bs, sy, R⟩ : Dk).Ok ∧ Below w.heap.size w wr ∧ Whole wr w.heap.size 24 #[.slice A3 bs.length c3, .int .i64 sy, .int .i64 R] ∧ wr.ownsRow (w.heap.size + 1) 5 1 (.slice A3 bs.length c3) bs.length (bv bs) ∧ wr.ownsRow (w.heap.size + 1) 5 1 (.slice A7 sy c7) sy (bv (bs.take sy))) (fun _ i _ => n1 - (intOf i).toNat)
  case atStart => exact ⟨0, bs0, sy0, A3, c3, A7, c7, rfl, Nat.zero_le _, rfl, HOK0.out, B4.out, Y4.out, R34.out, R74.out⟩
  case round =>
    clear Y4 B4 R34 R74 C3 L3 HOK0 d3 d5
    obtain ⟨k, bs, sy, A3, c3, A7, c7, rfl, hk, rfl, hok, hb, hx, ho3, ho7⟩ := hrel
    have C3 := own_cap ho3
    have hr3 := Rd.of_own ho3
    have HO7 := Lib.hid ho7
    clear ho3 ho7
    by_cases hlt : k < n1
    · obtain ⟨x, hxl⟩ : ∃ x, l[k]? = some x := ⟨_, List.getElem?_eq_getElem (by rw [HLr.out.1]; exact hlt)⟩
      obtain ⟨hrx, hxb, hxc, hxm⟩ := (HLr.out.below hb).2.2 x (List.mem_of_getElem? hxl)
      obtain ⟨rb, off, rfl, hrb, hcr⟩ := (HLr.out.below hb).2.1 (by omega)
      have hcx := hcr k x hxl
      have hI : (k : Int) < (n1 : Int) := by omega
      have HRX := Lib.hid hrx
      have HXB := Lib.hid hxb
      clear hcr hxl hrx hxb
      obtain ⟨Ax, nx, cx, xs⟩ := x
      simp only at hcx hxc hxm HRX HXB
      have HBr := Lib.hid hb
      have HXr := Lib.hid hx
      have HOK := Lib.hid hok
      have HR3 := Lib.hid hr3
      by_cases hnx : nx ≤ 40
      · have d4 : decide ((40 : Int) < (nx : Int)) = false := by simp; omega
        obtain ⟨x0, x1, x2⟩ := hx.cells3
        obtain ⟨ab, E, hAp, hAok, hApp⟩ := append_some hok HXB.out
        have HAP := Lib.hid hAp
        have HAOK := Lib.hid hAok
        have HAPP := Lib.hid hApp
        obtain ⟨na, hna⟩ : ∃ na, ab.length = na := ⟨_, rfl⟩
        have HNA := Lib.hid hna
        clear hb hx hok hr3 hAp hAok hApp hna
        obtain ⟨W1, hW1⟩ : ∃ W, wr.alloc (diskB A3 bs.length c3 sy R) = W := ⟨_, rfl⟩
        have b1 : Below wr.heap.size wr W1 := by rw [← hW1]; exact (Below.refl _ wr).alloc (Nat.le_refl _) _
        have Z1 : Whole W1 wr.heap.size 24 #[.slice A3 bs.length c3, .int .i64 sy, .int .i64 R] := by rw [← hW1]; exact Whole.new wr _ _
        have X1 := Lib.hid (HXr.out.under b1)
        have B1 := Lib.hid (HBr.out.trans (b1.mono HBr.out.size))
        have R31 := Lib.hid ((HR3.out.below b1).more b1.size)
        have O71 := Lib.hid (own_under HO7.out b1)
        have HZ1 := Lib.hid Z1
        have L9 := Z1.lt
        have RX1 := Lib.hid (HRX.out.below (b1.mono HBr.out.size))
        have hcx1 := (b1.cell (p := ⟨rb, off + k, none⟩) (by have := HBr.out.size; simp; omega)).trans hcx
        have HCX := Lib.hid hcx1
        have lw : w.heap.size ≤ wr.heap.size := HBr.out.size
        clear hcx1 b1 Z1
        go_wp2_with fail
        have HW1 := Lib.hid hW1
        clear hW1 x0 x1 x2 hcx
        have HL : Hid (∀ W, Below W1.heap.size W1 W → Below w.heap.size w W ∧ Rd W W.heap.size A3 bs.length (bv bs) ∧ W.cell? ⟨w.heap.size, 0, none⟩ = some (.slice A3 bs.length c3) ∧ W.cell? ⟨w.heap.size, 1, none⟩ = some (.int .i64 sy) ∧ W.cell? ⟨w.heap.size, 2, none⟩ = some (.int .i64 R) ∧ W.cell? ⟨rb, off + k, none⟩ = some (.slice Ax nx cx) ∧ W.cell? ⟨wr.heap.size, 0, none⟩ = some (.slice A3 bs.length c3)) := fun W hW => by
          have g := (X1.out.under hW).cells3
          exact ⟨B1.out.trans (hW.mono B1.out.size), (R31.out.below hW).more hW.size, g.1, g.2.1, g.2.2, (hW.cell (p := ⟨rb, off + k, none⟩) (by simp; omega)).trans HCX.out, (HZ1.out.under hW).cells3.1⟩
        go_cut [10, 11] (fun s10 s11 wx => ∃ b10 A10 c10, s10 = .pointer (some ⟨b10, 0, none⟩) ∧ s11 = .int .i64 E ∧ Below W1.heap.size W1 wx ∧ Whole wx b10 24 #[.slice A10 na c10, .int .i64 sy, .int .i64 R] ∧ wx.ownsRow W1.heap.size 5 1 (.slice A10 na c10) na (bv ab))
        case first =>
          as_aux_lemma =>
            have HC := Lib.hid ((Below.refl W1.heap.size W1).drew)
            refine wp_region_held_drew (S := fun W => Below W1.heap.size W1 W) (by kernel_rfl) HC.out (fun _ => ?_)
            refine takeH (i := 0) (v := ?_) rfl (by kernel_rfl) (by kernel_rfl) (by kernel_rfl) (fun _ _ _ h => h) (by rfl) ?_ HC.out ?_
            rotate_left
            · intro W hW; obtain ⟨L0, L1, L2, L3, L4, L5, L6⟩ := HL.out W hW; go_simp <;> with_reducible rfl
            simp only [Act.put, List.setIfInBounds_toArray, List.set_cons_zero, List.set_cons_succ]
            refine takeH (i := 1) (v := ?_) rfl (by kernel_rfl) (by kernel_rfl) (by kernel_rfl) (fun _ _ _ h => h) (by rfl) ?_ HC.out ?_
            rotate_left
            · intro W hW; obtain ⟨L0, L1, L2, L3, L4, L5, L6⟩ := HL.out W hW; go_simp <;> with_reducible rfl
            simp only [Act.put, List.setIfInBounds_toArray, List.set_cons_zero, List.set_cons_succ]
            refine takeH (i := 2) (v := ?_) rfl (by kernel_rfl) (by kernel_rfl) (by kernel_rfl) (fun _ _ _ h => h) (by rfl) ?_ HC.out ?_
            rotate_left
            · intro W hW; obtain ⟨L0, L1, L2, L3, L4, L5, L6⟩ := HL.out W hW; go_simp <;> with_reducible rfl
            simp only [Act.put, List.setIfInBounds_toArray, List.set_cons_zero, List.set_cons_succ]
            refine takeH (i := 3) (v := ?_) rfl (by kernel_rfl) (by kernel_rfl) (by kernel_rfl) (fun _ _ _ h => h) (by rfl) ?_ HC.out ?_
            rotate_left
            · intro W hW; obtain ⟨L0, L1, L2, L3, L4, L5, L6⟩ := HL.out W hW; go_simp <;> with_reducible rfl
            simp only [Act.put, List.setIfInBounds_toArray, List.set_cons_zero, List.set_cons_succ]
            refine takeH (i := 4) (v := ?_) rfl (by kernel_rfl) (by kernel_rfl) (by kernel_rfl) (fun _ _ _ h => h) (by rfl) ?_ HC.out ?_
            rotate_left
            · intro W hW; obtain ⟨L0, L1, L2, L3, L4, L5, L6⟩ := HL.out W hW; go_simp <;> with_reducible rfl
            simp only [Act.put, List.setIfInBounds_toArray, List.set_cons_zero, List.set_cons_succ]
            refine twoH (i := 5) (j := 9) rfl rfl (by kernel_rfl) (by rfl) (by rfl) (fun K hK => ?_) (fun K hK => ?_)
            · go_simp
              obtain ⟨L0, L1, L2, L3, L4, L5, L6⟩ := HL.out _ HC.out
              refine (HAPP.out _ _ _ _ _ _ L1 C3 ((RX1.out.below (HC.out.mono B1.out.size)).more L0.size) hxc hxm (by omega)).mono ?_
              rintro e w11 ⟨A10, c10, he10, o10, d10⟩
              rw [HNA.out] at he10 o10
              subst he10
              have R10 := Lib.hid (Rd.of_own o10)
              have O10 := Lib.hid o10
              have C10 := own_cap o10
              have HC2 := Lib.hid (HC.out.trans (d10.mono HC.out.size))
              clear HC
              have HC := HC2
              clear HC2
              clear d10 o10 L0 L1 L2 L3 L4 L5 L6
              refine hK.out _ _ HC.out (fun _ => ?_)
              clear hK K
              have G11 := Lib.hid HC.out.size
              refine takeH (i := 6) (v := ?_) rfl (by kernel_rfl) (by kernel_rfl) (by kernel_rfl) (fun _ _ _ h => h) (by rfl) ?_ HC.out ?_
              rotate_left
              · intro W hW; obtain ⟨L0, L1, L2, L3, L4, L5, L6⟩ := HL.out W hW; go_simp <;> with_reducible rfl
              simp only [Act.put, List.setIfInBounds_toArray, List.set_cons_zero, List.set_cons_succ]
              refine takeH (i := 7) (v := ?_) rfl (by kernel_rfl) (by kernel_rfl) (by kernel_rfl) (fun _ _ _ h => h) (by rfl) ?_ HC.out ?_
              rotate_left
              · intro W hW; obtain ⟨L0, L1, L2, L3, L4, L5, L6⟩ := HL.out W hW; go_simp <;> with_reducible rfl
              simp only [Act.put, List.setIfInBounds_toArray, List.set_cons_zero, List.set_cons_succ]
              refine takeH (i := 8) (v := ?_) rfl (by kernel_rfl) (by kernel_rfl) (by kernel_rfl) (fun _ _ _ h => h) (by rfl) ?_ HC.out ?_
              rotate_left
              · intro W hW; obtain ⟨L0, L1, L2, L3, L4, L5, L6⟩ := HL.out W hW; go_simp <;> with_reducible rfl
              simp only [Act.put, List.setIfInBounds_toArray, List.set_cons_zero, List.set_cons_succ]
              refine oneH (i := 9) rfl (by kernel_rfl) (by rfl) (fun K hK => opH_alloc ?_)
              have ZZ := Lib.hid (Whole.new w11 24 #[.slice none 0 0, .int .i64 0, .int .i64 0])
              have O10b := Lib.hid (O10.out.alloc zeroB)
              have HC2 := Lib.hid (HC.out.alloc HC.out.size zeroB)
              clear HC
              have HC := HC2
              clear HC2
              refine hK.out _ _ HC.out (fun _ => ?_)
              clear hK K
              simp only [Act.put, List.setIfInBounds_toArray, List.set_cons_zero, List.set_cons_succ]
              refine oneH (i := 10) rfl (by kernel_rfl) (by rfl) (fun K hK => opH_store rfl rfl ZZ.out ?_)
              have g1 : W1.heap.size ≤ w11.heap.size := G11.out
              have HC2 := Lib.hid (below_setDisk HC.out g1 (.slice A10 na c10) (.int .i64 sy) (.int .i64 R))
              clear HC
              have HC := HC2
              clear HC2
              refine hK.out _ _ HC.out (fun _ => ?_)
              clear hK K
              refine takeH (i := 11) (v := ?_) rfl (by kernel_rfl) (by kernel_rfl) (by kernel_rfl) (fun _ _ _ h => h) (by rfl) ?_ HC.out ?_
              rotate_left
              · intro W hW; obtain ⟨L0, L1, L2, L3, L4, L5, L6⟩ := HL.out W hW; go_simp <;> with_reducible rfl
              simp only [Act.put, List.setIfInBounds_toArray, List.set_cons_zero, List.set_cons_succ]
              refine wpAnyH_done (by kernel_rfl) ?_ _
              go_wp2_with fail
              go_meet
              exact ⟨_, A10, c10, rfl, rfl, HC.out, ZZ.out.disk _ _ _, own_weaker (own_farDisk O10b.out ZZ.out _ _ _) (by simp)⟩
            · refine opH_alloc ?_
              have ZZ := Lib.hid (Whole.new W1.drew 24 #[.slice none 0 0, .int .i64 0, .int .i64 0])
              have HC2 := Lib.hid (HC.out.alloc HC.out.size zeroB)
              clear HC
              have HC := HC2
              clear HC2
              refine hK.out _ _ HC.out (fun _ => ?_)
              clear hK K
              simp only [Act.put, List.setIfInBounds_toArray, List.set_cons_zero, List.set_cons_succ]
              refine oneH (i := 5) rfl (by kernel_rfl) (by rfl) (fun K hK => ?_)
              go_simp
              obtain ⟨L0, L1, L2, L3, L4, L5, L6⟩ := HL.out _ HC.out
              refine (HAPP.out _ _ _ _ _ _ L1 C3 ((RX1.out.below (HC.out.mono B1.out.size)).more L0.size) hxc hxm (by omega)).mono ?_
              rintro e w11 ⟨A10, c10, he10, o10, d10⟩
              rw [HNA.out] at he10 o10
              subst he10
              have R10 := Lib.hid (Rd.of_own o10)
              have O10 := Lib.hid o10
              have C10 := own_cap o10
              have ZZ2 := Lib.hid (ZZ.out.under d10)
              have HC2 := Lib.hid (HC.out.trans (d10.mono HC.out.size))
              clear HC
              have HC := HC2
              clear HC2
              clear d10 o10 L0 L1 L2 L3 L4 L5 L6
              refine hK.out _ _ HC.out (fun _ => ?_)
              clear hK K
              refine takeH (i := 6) (v := ?_) rfl (by kernel_rfl) (by kernel_rfl) (by kernel_rfl) (fun _ _ _ h => h) (by rfl) ?_ HC.out ?_
              rotate_left
              · intro W hW; obtain ⟨L0, L1, L2, L3, L4, L5, L6⟩ := HL.out W hW; go_simp <;> with_reducible rfl
              simp only [Act.put, List.setIfInBounds_toArray, List.set_cons_zero, List.set_cons_succ]
              refine takeH (i := 7) (v := ?_) rfl (by kernel_rfl) (by kernel_rfl) (by kernel_rfl) (fun _ _ _ h => h) (by rfl) ?_ HC.out ?_
              rotate_left
              · intro W hW; obtain ⟨L0, L1, L2, L3, L4, L5, L6⟩ := HL.out W hW; go_simp <;> with_reducible rfl
              simp only [Act.put, List.setIfInBounds_toArray, List.set_cons_zero, List.set_cons_succ]
              refine takeH (i := 8) (v := ?_) rfl (by kernel_rfl) (by kernel_rfl) (by kernel_rfl) (fun _ _ _ h => h) (by rfl) ?_ HC.out ?_
              rotate_left
              · intro W hW; obtain ⟨L0, L1, L2, L3, L4, L5, L6⟩ := HL.out W hW; go_simp <;> with_reducible rfl
              simp only [Act.put, List.setIfInBounds_toArray, List.set_cons_zero, List.set_cons_succ]
              refine oneH (i := 10) rfl (by kernel_rfl) (by rfl) (fun K hK => opH_store rfl rfl ZZ2.out ?_)
              have HC2 := Lib.hid (below_setDisk HC.out (Nat.le_refl _) (.slice A10 na c10) (.int .i64 sy) (.int .i64 R))
              clear HC
              have HC := HC2
              clear HC2
              refine hK.out _ _ HC.out (fun _ => ?_)
              clear hK K
              refine takeH (i := 11) (v := ?_) rfl (by kernel_rfl) (by kernel_rfl) (by kernel_rfl) (fun _ _ _ h => h) (by rfl) ?_ HC.out ?_
              rotate_left
              · intro W hW; obtain ⟨L0, L1, L2, L3, L4, L5, L6⟩ := HL.out W hW; go_simp <;> with_reducible rfl
              simp only [Act.put, List.setIfInBounds_toArray, List.set_cons_zero, List.set_cons_succ]
              refine wpAnyH_done (by kernel_rfl) ?_ _
              go_wp2_with fail
              go_meet
              exact ⟨_, A10, c10, rfl, rfl, HC.out, ZZ2.out.disk _ _ _, own_weaker (own_farDisk O10.out ZZ2.out _ _ _) (by simp)⟩
        case rest =>
          obtain ⟨b10, A10, c10, rfl, rfl, hb2, hx10, ho10⟩ := hcut
          obtain ⟨nw, hnw⟩ : ∃ nw, bs.length + nx = nw := ⟨_, rfl⟩
          have HNW := Lib.hid hnw
          have hbsl : bs.length ≤ R := HOK.out.len
          have lw1 : wr.heap.size < W1.heap.size := L9
          have C10 := own_cap ho10
          have B2 := Lib.hid (HL.out wc hb2).1
          have X2 := Lib.hid (X1.out.under hb2)
          have Y2 := Lib.hid (HZ1.out.under hb2)
          have HX10 := Lib.hid hx10
          have O10 := Lib.hid (own_weaker ho10 (by omega) : wc.ownsRow (w.heap.size + 1) 5 1 (.slice A10 na c10) na (bv ab))
          have O72 := Lib.hid (own_under O71.out hb2)
          have R32 := Lib.hid ((R31.out.below hb2).more hb2.size)
          have RX2 := Lib.hid (RX1.out.below (hb2.mono (by omega)))
          have hcx2 := (hb2.cell (p := ⟨rb, off + k, none⟩) (by simp; omega)).trans HCX.out
          have HCX2 := Lib.hid hcx2
          clear hb2 hx10 ho10 hcx2 hnw X1 HZ1 O71 R31 RX1 HCX HL
          go_wp2_with fail
          obtain ⟨v1, V1, A12, c12, V2, e1, e2, hr12, b1, b2⟩ := run_pair wc.drew wc.heap.size A3 Ax bs.length c3 nx cx bs xs R32.out (RX2.out.more (by have := B2.out.size; omega)) (Nat.le_refl _) (by omega) wc.heap.size rfl
          have HE1 := Lib.hid e1
          have HE2 := Lib.hid e2
          have HR12 := Lib.hid hr12
          have b1' : Below wc.heap.size wc V1 := ((Below.refl _ wc).drew).trans b1
          have b2' : Below wc.heap.size wc V2 := ((Below.refl _ wc).drew).trans b2
          have HB1 := Lib.hid b1'
          have HB2 := Lib.hid b2'
          clear e1 e2 hr12 b1 b2 b1' b2'
          have HL : Hid (∀ W, Below wc.heap.size wc W → W.cell? ⟨wr.heap.size, 0, none⟩ = some (.slice A3 bs.length c3) ∧ W.cell? ⟨rb, off + k, none⟩ = some (.slice Ax nx cx)) := fun W hW => ⟨(Y2.out.under hW).cells3.1, (hW.cell (p := ⟨rb, off + k, none⟩) (by have := B2.out.size; simp; omega)).trans HCX2.out⟩
          go_cut [12] (fun s12 wx => s12 = .slice A12 (bs.length + nx) c12 ∧ wx = V2)
          case first =>
            as_aux_lemma =>
              have HC := Lib.hid ((Below.refl wc.heap.size wc).drew)
              refine wp_region_held_drew (S := fun W => Below wc.heap.size wc W) (by kernel_rfl) HC.out (fun _ => ?_)
              refine takeH (i := 1) (v := ?_) rfl (by kernel_rfl) (by kernel_rfl) (by kernel_rfl) (fun _ _ _ h => h) (by rfl) ?_ HC.out ?_
              rotate_left
              · intro W hW; obtain ⟨L0, L1⟩ := HL.out W hW; go_simp <;> with_reducible rfl
              simp only [Act.put, List.setIfInBounds_toArray, List.set_cons_zero, List.set_cons_succ]
              refine takeH (i := 2) (v := ?_) rfl (by kernel_rfl) (by kernel_rfl) (by kernel_rfl) (fun _ _ _ h => h) (by rfl) ?_ HC.out ?_
              rotate_left
              · intro W hW; obtain ⟨L0, L1⟩ := HL.out W hW; go_simp <;> with_reducible rfl
              simp only [Act.put, List.setIfInBounds_toArray, List.set_cons_zero, List.set_cons_succ]
              refine takeH (i := 4) (v := ?_) rfl (by kernel_rfl) (by kernel_rfl) (by kernel_rfl) (fun _ _ _ h => h) (by rfl) ?_ HC.out ?_
              rotate_left
              · intro W hW; obtain ⟨L0, L1⟩ := HL.out W hW; go_simp <;> with_reducible rfl
              simp only [Act.put, List.setIfInBounds_toArray, List.set_cons_zero, List.set_cons_succ]
              refine takeH (i := 5) (v := ?_) rfl (by kernel_rfl) (by kernel_rfl) (by kernel_rfl) (fun _ _ _ h => h) (by rfl) ?_ HC.out ?_
              rotate_left
              · intro W hW; obtain ⟨L0, L1⟩ := HL.out W hW; go_simp <;> with_reducible rfl
              simp only [Act.put, List.setIfInBounds_toArray, List.set_cons_zero, List.set_cons_succ]
              refine takeH (i := 6) (v := ?_) rfl (by kernel_rfl) (by kernel_rfl) (by kernel_rfl) (fun _ _ _ h => h) (by rfl) ?_ HC.out ?_
              rotate_left
              · intro W hW; obtain ⟨L0, L1⟩ := HL.out W hW; go_simp <;> with_reducible rfl
              simp only [Act.put, List.setIfInBounds_toArray, List.set_cons_zero, List.set_cons_succ]
              refine takeH (i := 7) (v := ?_) rfl (by kernel_rfl) (by kernel_rfl) (by kernel_rfl) (fun _ _ _ h => h) (by rfl) ?_ HC.out ?_
              rotate_left
              · intro W hW; obtain ⟨L0, L1⟩ := HL.out W hW; go_simp <;> with_reducible rfl
              simp only [Act.put, List.setIfInBounds_toArray, List.set_cons_zero, List.set_cons_succ]
              refine oneH (i := 0) rfl (by kernel_rfl) (by rfl) (fun K hK => ?_)
              go_simp
              have HC2 := Lib.hid (HC.out.alloc HC.out.size (.cells #[] 5))
              clear HC
              have HC := HC2
              clear HC2
              refine hK.out _ _ HC.out (fun _ => ?_)
              clear hK K
              refine oneH (i := 3) rfl (by kernel_rfl) (by rfl) (fun K hK => wp_appendH rfl rfl HE1.out ?_)
              clear HC
              have HC := HB1
              refine hK.out _ _ HC.out (fun _ => ?_)
              clear hK K
              simp only [Act.put, List.setIfInBounds_toArray, List.set_cons_zero, List.set_cons_succ]
              refine oneH (i := 8) rfl (by kernel_rfl) (by rfl) (fun K hK => wp_appendH rfl rfl HE2.out ?_)
              clear HC
              have HC := HB2
              refine hK.out _ _ HC.out (fun _ => ?_)
              clear hK K
              simp only [Act.put, List.setIfInBounds_toArray, List.set_cons_zero, List.set_cons_succ]
              refine takeH (i := 9) (v := ?_) rfl (by kernel_rfl) (by kernel_rfl) (by kernel_rfl) (fun _ _ _ h => h) (by rfl) ?_ HC.out ?_
              rotate_left
              · intro W hW; obtain ⟨L0, L1⟩ := HL.out W hW; go_simp <;> with_reducible rfl
              simp only [Act.put, List.setIfInBounds_toArray, List.set_cons_zero, List.set_cons_succ]
              refine wpAnyH_done (by kernel_rfl) ?_ _
              go_wp2_with fail
              go_meet
              exact ⟨rfl, rfl⟩
          case rest =>
            obtain ⟨rfl, rfl⟩ := hcut
            have hb3 := HB2.out
            have B3 := Lib.hid (B2.out.trans (hb3.mono B2.out.size))
            have X3 := Lib.hid (X2.out.under hb3)
            have Y3 := Lib.hid (Y2.out.under hb3)
            have Z3 := Lib.hid (HX10.out.under hb3)
            have O103 := Lib.hid (own_under O10.out hb3)
            have O73 := Lib.hid (own_under O72.out hb3)
            have R33 := Lib.hid ((R32.out.below hb3).more hb3.size)
            have L3 : w.heap.size < wc.heap.size := X3.out.lt
            clear hb3 X2 Y2 HX10 O10 O72 R32 RX2 HCX2 HL HE1 HE2 HB1 HB2 B2
            go_upto_region 15 with fail
            go_cut [110] (fun s wx => s = .bool false ∧ Below wc.heap.size wc wx)
            case first =>
              as_aux_lemma =>
                obtain ⟨y0, y1, y2⟩ := Y3.out.cells3
                obtain ⟨z0, z1, z2⟩ := Z3.out.cells3
                rcases HAP.out.what with ⟨rfl, hab, hfit⟩ | ⟨rfl, hab, hfit⟩
                · have hxl : xs.length = nx := by have := HRX.out.1; rwa [bv_length] at this
                  have hsb : Calls Try.prog 22 #[.slice A10 na c10, .slice A12 (bs.length + nx) c12] wc fun e w' => e = .returned (.bool true) ∧ w' = wc := by
                    have h := same_bytes A10 A12 na c10 (bs.length + nx) c12 ab (bs ++ xs) wc.heap.size wc.heap.size wc (Rd.of_own O103.out) HR12.out HAOK.out.byte (fun y hy => (List.mem_append.1 hy).elim (HOK.out.byte y) (HXB.out y))
                    rwa [show decide (ab = bs ++ xs) = true by rw [decide_eq_true_eq]; exact hab] at h
                  have HSB := Lib.hid hsb
                  clear hab hfit hsb hxl
                  go_wp2_with fail
                  refine (HSB.out).mono ?_
                  rintro e w5 ⟨rfl, rfl⟩
                  go_wp2_with fail
                  go_meet
                  exact ⟨rfl, Below.refl _ _⟩
                · have hxl : xs.length = nx := by have := HRX.out.1; rwa [bv_length] at this
                  have hnb : bs.length = na := by rw [← HNA.out, hab]
                  have hsm : Calls Try.prog 25 #[diskV A10 na c10 sy R, diskV A3 bs.length c3 sy R] wc fun e w' => e = .returned (.bool true) ∧ Below wc.heap.size wc w' := by
                    have hq := Rd.of_own O103.out
                    rw [hab, ← hnb] at hq
                    rw [← hnb]
                    exact same_self HOK.out hq (by omega) R33.out C3
                  have HSM := Lib.hid hsm
                  have d6 : decide (bs.length + nx ≤ R) = false := by simp; omega
                  have d7 : decide ((bs.length : Int) + (nx : Int) ≤ (R : Int)) = false := by simp; omega
                  clear hab hfit hsm hxl hnb
                  go_wp2_with fail
                  refine (HSM.out).mono ?_
                  rintro e w5 ⟨rfl, b5⟩
                  have HB5 := Lib.hid b5
                  clear y0 y1 y2 z0 z1 z2
                  obtain ⟨y0, y1, y2⟩ := (Y3.out.under b5).cells3
                  clear b5
                  go_wp2_with fail
                  go_meet
                  exact ⟨rfl, HB5.out⟩
            case rest =>
              obtain ⟨rfl, hb4⟩ := hcut
              have B4 := B3.out.trans (hb4.mono B3.out.size)
              have X4 := X3.out.under hb4
              obtain ⟨z0, z1, z2⟩ := (Z3.out.under hb4).cells3
              have O104 := own_under O103.out hb4
              have O74 := own_under O73.out hb4
              obtain ⟨x0, x1, x2⟩ := X4.cells3
              have f0 := X4.frozen 0
              have f1 := X4.frozen 1
              have f2 := X4.frozen 2
              have hsyb : sy ≤ bs.length := HOK.out.syn
              have hsya : sy ≤ na := by have := HAOK.out.syn; rw [HNA.out] at this; exact this
              have hnaR : na ≤ R := by have := HAOK.out.len; rw [HNA.out] at this; exact this
              have HTKn : Hid (ab.take sy = bs.take sy) := Lib.hid (by obtain ⟨t, ht⟩ := HAP.out.head; rw [ht, List.take_append_of_le_length hsyb])
              obtain ⟨W5, hW5⟩ : ∃ W, setDisk wc w.heap.size (.slice A10 na c10) (.int .i64 sy) (.int .i64 R) = W := ⟨_, rfl⟩
              have BW5 : Hid (Below w.heap.size w W5) := Lib.hid (by rw [← hW5]; exact below_setDisk B4 (Nat.le_refl _) _ _ _)
              have XW5 : Hid (Whole W5 w.heap.size 24 #[.slice A10 na c10, .int .i64 sy, .int .i64 R]) := Lib.hid (by rw [← hW5]; exact (X4).disk _ _ _)
              have OW5 := Lib.hid (show W5.ownsRow (w.heap.size + 1) 5 1 (.slice A10 na c10) na (bv ab) by rw [← hW5]; exact own_setDisk O104 (Nat.lt_succ_self _) _ _ _)
              have PW5 := Lib.hid (show W5.ownsRow (w.heap.size + 1) 5 1 (.slice A7 sy c7) sy (bv (bs.take sy)) by rw [← hW5]; exact own_setDisk O74 (Nat.lt_succ_self _) _ _ _)
              have hW5' : ((wc.setCell ⟨w.heap.size, 0, none⟩ (.slice A10 na c10)).setCell ⟨w.heap.size, 1, none⟩ (.int .i64 sy)).setCell ⟨w.heap.size, 2, none⟩ (.int .i64 R) = W5 := hW5
              clear hW5
              have HW5 := Lib.hid hW5'
              clear hW5' B4 X4 O104 O74 B3 X3 Y3 Z3 O103 O73 R33 hb4
              have arm0 : True := trivial
              by_cases hkn : k < n2
              · obtain ⟨zb, zo, rfl, hzb, hzc⟩ := HZr.out.2 (by omega)
                have hzl : zs.length = n2 := by have := HZr.out.1; rwa [iv_length] at this
                obtain ⟨z, hz⟩ : ∃ z, zs[k]? = some z := ⟨_, List.getElem?_eq_getElem (by omega)⟩
                have hzc5 := (BW5.out.cell (p := ⟨zb, zo + k, none⟩) (by simpa using hzb)).trans ((hzc k hkn).trans (by simp [iv, hz] : (iv zs)[k]? = some (.int .i64 z)))
                have hkI : (k : Int) < (n2 : Int) := by omega
                have HZC := Lib.hid (fun (W : World) (hW : Below w.heap.size w W) => (hW.cell (p := ⟨zb, zo + k, none⟩) (by simpa using hzb)).trans ((hzc k hkn).trans (by simp [iv, hz] : (iv zs)[k]? = some (.int .i64 z))))
                clear hzc hz hzl
                by_cases hz0 : 0 ≤ z
                · as_aux_lemma =>
                    have hzm : (z == -1) = false := by rw [beq_eq_false_iff_ne]; omega
                    obtain ⟨b2, hb2⟩ := crashD_form z ⟨ab, sy, R⟩
                    obtain ⟨m2, hm2⟩ : ∃ m2, b2.length = m2 := ⟨_, rfl⟩
                    obtain ⟨mm, hmm⟩ : ∃ mm, na - sy = mm := ⟨_, rfl⟩
                    have hlo : loseN z ⟨ab, sy, R⟩ = m2 ∧ b2 = ab.take m2 := by
                      have h1 := loseD_len HAOK.out z
                      simp only [crashD, secureD, Dk.mk.injEq] at hb2
                      rw [hb2.1] at h1
                      refine ⟨by rw [← hm2]; exact h1.symm, ?_⟩
                      rw [← hm2, h1, ← hb2.1]
                      rfl
                    have hlv : m2 = sy + clampN z mm := by rw [← hlo.1]; simp only [loseN]; rw [HNA.out, hmm]
                    have HCRA : Hid (∀ W, Below W5.heap.size W5 W → Calls Try.prog 17 #[diskV A10 na c10 sy R, .int .i64 z] W (DiskN m2 b2 m2 R W)) := Lib.hid (fun W hW => by
                      have h := crash_N (W := W) (n := na) (c := c10) (A := A10) z HAOK.out hb2 (((Rd.of_own OW5.out).below hW).more hW.size) C10
                      rw [hm2] at h
                      exact h)
                    have hm2a : m2 ≤ na := by have := clampN_le z mm; omega
                    have hm2s : sy ≤ m2 := by omega
                    have HOK2 : Hid ((⟨b2, m2, R⟩ : Dk).Ok) := Lib.hid (by have h := secure_ok (lose_ok HAOK.out z); have h2 := hb2; unfold crashD at h2; rw [h2, hm2] at h; exact h)
                    have HTKc : Hid (b2.take sy = bs.take sy) := Lib.hid (by rw [hlo.2, List.take_take, Nat.min_eq_left hm2s]; exact HTKn.out)
                    have HB2 := Lib.hid hlo.2
                    have HLV := Lib.hid hlv
                    have HMM := Lib.hid hmm
                    have HNM := Lib.hid hm2
                    clear hb2 hm2 hmm hlo hlv
                    go_wp2_with (rw [HW5.out]; clear x0 x1 x2 f0 f1 f2 z0 z1 z2)
                    have HL : Hid (∀ W, Below W5.heap.size W5 W → W.cell? ⟨w.heap.size, 0, none⟩ = some (.slice A10 na c10) ∧ W.cell? ⟨w.heap.size, 1, none⟩ = some (.int .i64 sy) ∧ W.cell? ⟨w.heap.size, 2, none⟩ = some (.int .i64 R) ∧ W.cell? ⟨zb, zo + k, none⟩ = some (.int .i64 z)) := Lib.hid (fun W hW => by
                      have g := (XW5.out.under hW).cells3
                      exact ⟨g.1, g.2.1, g.2.2, HZC.out _ (BW5.out.trans (hW.mono BW5.out.size))⟩)
                    clear hzc5
                    go_cut [13] (fun s13 wx => ∃ b13 A13 c13, s13 = .pointer (some ⟨b13, 0, none⟩) ∧ Below W5.heap.size W5 wx ∧ Whole wx b13 24 #[.slice A13 m2 c13, .int .i64 m2, .int .i64 R] ∧ wx.ownsRow W5.heap.size 5 1 (.slice A13 m2 c13) m2 (bv b2))
                    case first =>
                      have HC := Lib.hid ((Below.refl W5.heap.size W5).drew)
                      refine wp_region_held_drew (S := fun W => Below W5.heap.size W5 W) (by kernel_rfl) HC.out (fun _ => ?_)
                      refine takeH (i := 0) (v := ?_) rfl (by kernel_rfl) (by kernel_rfl) (by kernel_rfl) (fun _ _ _ h => h) (by rfl) ?_ HC.out ?_
                      rotate_left
                      · intro W hW; obtain ⟨L0, L1, L2, L3⟩ := HL.out W hW; go_simp <;> with_reducible rfl
                      simp only [Act.put, List.setIfInBounds_toArray, List.set_cons_zero, List.set_cons_succ]
                      refine takeH (i := 1) (v := ?_) rfl (by kernel_rfl) (by kernel_rfl) (by kernel_rfl) (fun _ _ _ h => h) (by rfl) ?_ HC.out ?_
                      rotate_left
                      · intro W hW; obtain ⟨L0, L1, L2, L3⟩ := HL.out W hW; go_simp <;> with_reducible rfl
                      simp only [Act.put, List.setIfInBounds_toArray, List.set_cons_zero, List.set_cons_succ]
                      refine takeH (i := 2) (v := ?_) rfl (by kernel_rfl) (by kernel_rfl) (by kernel_rfl) (fun _ _ _ h => h) (by rfl) ?_ HC.out ?_
                      rotate_left
                      · intro W hW; obtain ⟨L0, L1, L2, L3⟩ := HL.out W hW; go_simp <;> with_reducible rfl
                      simp only [Act.put, List.setIfInBounds_toArray, List.set_cons_zero, List.set_cons_succ]
                      refine takeH (i := 3) (v := ?_) rfl (by kernel_rfl) (by kernel_rfl) (by kernel_rfl) (fun _ _ _ h => h) (by rfl) ?_ HC.out ?_
                      rotate_left
                      · intro W hW; obtain ⟨L0, L1, L2, L3⟩ := HL.out W hW; go_simp <;> with_reducible rfl
                      simp only [Act.put, List.setIfInBounds_toArray, List.set_cons_zero, List.set_cons_succ]
                      refine takeH (i := 4) (v := ?_) rfl (by kernel_rfl) (by kernel_rfl) (by kernel_rfl) (fun _ _ _ h => h) (by rfl) ?_ HC.out ?_
                      rotate_left
                      · intro W hW; obtain ⟨L0, L1, L2, L3⟩ := HL.out W hW; go_simp <;> with_reducible rfl
                      simp only [Act.put, List.setIfInBounds_toArray, List.set_cons_zero, List.set_cons_succ]
                      refine twoH (i := 5) (j := 6) rfl rfl (by kernel_rfl) (by rfl) (by rfl) (fun K hK => ?_) (fun K hK => ?_)
                      · go_simp
                        refine (HCRA.out _ HC.out).mono ?_
                        rintro e w11 ⟨A13, c13, rfl, o13, d13⟩
                        have O13 := Lib.hid o13
                        have G11 := Lib.hid (HC.out.trans (d13.mono HC.out.size)).size
                        have HC2 := Lib.hid (HC.out.trans (d13.mono HC.out.size))
                        clear HC
                        have HC := HC2
                        clear HC2
                        clear d13 o13
                        refine hK.out _ _ HC.out (fun _ => ?_)
                        clear hK K
                        refine oneH (i := 6) rfl (by kernel_rfl) (by rfl) (fun K hK => opH_alloc ?_)
                        have ZZ := Lib.hid (Whole.new w11 24 #[.slice none 0 0, .int .i64 0, .int .i64 0])
                        have O13b := Lib.hid (O13.out.alloc zeroB)
                        have HC2 := Lib.hid (HC.out.alloc HC.out.size zeroB)
                        clear HC
                        have HC := HC2
                        clear HC2
                        refine hK.out _ _ HC.out (fun _ => ?_)
                        clear hK K
                        simp only [Act.put, List.setIfInBounds_toArray, List.set_cons_zero, List.set_cons_succ]
                        refine oneH (i := 7) rfl (by kernel_rfl) (by rfl) (fun K hK => opH_store rfl rfl ZZ.out ?_)
                        have HC2 := Lib.hid (below_setDisk HC.out G11.out (.slice A13 m2 c13) (.int .i64 m2) (.int .i64 R))
                        clear HC
                        have HC := HC2
                        clear HC2
                        refine hK.out _ _ HC.out (fun _ => ?_)
                        clear hK K
                        refine wpAnyH_done (by kernel_rfl) ?_ _
                        go_wp2_with fail
                        go_meet
                        exact ⟨_, A13, c13, rfl, HC.out, ZZ.out.disk _ _ _, own_weaker (own_farDisk O13b.out ZZ.out _ _ _) (by simp)⟩
                      · refine opH_alloc ?_
                        have ZZ := Lib.hid (Whole.new W5.drew 24 #[.slice none 0 0, .int .i64 0, .int .i64 0])
                        have HC2 := Lib.hid (HC.out.alloc HC.out.size zeroB)
                        clear HC
                        have HC := HC2
                        clear HC2
                        refine hK.out _ _ HC.out (fun _ => ?_)
                        clear hK K
                        simp only [Act.put, List.setIfInBounds_toArray, List.set_cons_zero, List.set_cons_succ]
                        refine oneH (i := 5) rfl (by kernel_rfl) (by rfl) (fun K hK => ?_)
                        go_simp
                        refine (HCRA.out _ HC.out).mono ?_
                        rintro e w11 ⟨A13, c13, rfl, o13, d13⟩
                        have O13 := Lib.hid o13
                        have ZZ2 := Lib.hid (ZZ.out.under d13)
                        have HC2 := Lib.hid (HC.out.trans (d13.mono HC.out.size))
                        clear HC
                        have HC := HC2
                        clear HC2
                        clear d13 o13
                        refine hK.out _ _ HC.out (fun _ => ?_)
                        clear hK K
                        refine oneH (i := 7) rfl (by kernel_rfl) (by rfl) (fun K hK => opH_store rfl rfl ZZ2.out ?_)
                        have HC2 := Lib.hid (below_setDisk HC.out (Nat.le_refl _) (.slice A13 m2 c13) (.int .i64 m2) (.int .i64 R))
                        clear HC
                        have HC := HC2
                        clear HC2
                        refine hK.out _ _ HC.out (fun _ => ?_)
                        clear hK K
                        refine wpAnyH_done (by kernel_rfl) ?_ _
                        go_wp2_with fail
                        go_meet
                        exact ⟨_, A13, c13, rfl, HC.out, ZZ2.out.disk _ _ _, own_weaker (own_farDisk O13.out ZZ2.out _ _ _) (by simp)⟩
                    case rest =>
                      obtain ⟨b13, A13, c13, rfl, hb6, hx13, ho13⟩ := hcut
                      have lw5 : w.heap.size < W5.heap.size := XW5.out.lt
                      have X6 := Lib.hid (XW5.out.under hb6)
                      have Z6 := Lib.hid hx13
                      have B6 := Lib.hid (BW5.out.trans (hb6.mono BW5.out.size))
                      have O6 := Lib.hid (own_weaker ho13 (by omega) : wc.ownsRow (w.heap.size + 1) 5 1 (.slice A13 m2 c13) m2 (bv b2))
                      have O76 := Lib.hid (own_under PW5.out hb6)
                      have O106 := Lib.hid (own_under OW5.out hb6)
                      clear hb6 hx13 ho13 HL HCRA
                      have HL : Hid (∀ W, Below wc.heap.size wc W → W.cell? ⟨w.heap.size, 0, none⟩ = some (.slice A10 na c10) ∧ W.cell? ⟨w.heap.size, 1, none⟩ = some (.int .i64 sy) ∧ W.cell? ⟨b13, 0, none⟩ = some (.slice A13 m2 c13) ∧ W.cell? ⟨b13, 1, none⟩ = some (.int .i64 m2) ∧ W.cell? ⟨zb, zo + k, none⟩ = some (.int .i64 z)) := Lib.hid (fun W hW => by
                        have g := (X6.out.under hW).cells3
                        have h := (Z6.out.under hW).cells3
                        exact ⟨g.1, g.2.1, h.1, h.2.1, HZC.out _ (B6.out.trans (hW.mono B6.out.size))⟩)
                      have HSM20 : Hid (∀ W, Below wc.heap.size wc W → Calls Try.prog 22 #[.slice A13 m2 c13, .slice A10 m2 c10] W fun e w' => e = .returned (.bool true) ∧ w' = W) := Lib.hid (fun W hW => by
                        have hq := (((Rd.of_own O106.out).below hW).take hm2a)
                        simp only [bv, ← List.map_take] at hq
                        have h := same_bytes A13 A10 m2 c13 m2 c10 b2 (ab.take m2) wc.heap.size wc.heap.size W ((Rd.of_own O6.out).below hW) hq HOK2.out.byte (fun y hy => HAOK.out.byte y (List.mem_of_mem_take hy))
                        rwa [show decide (b2 = ab.take m2) = true by rw [decide_eq_true_eq]; exact HB2.out] at h)
                      have g1 : decide (na < m2) = false := by simp; omega
                      have hh := fun W => run_head A10 na c10 m2 (by omega) W
                      have g3 : (na : Int) - (sy : Int) = (mm : Int) := by have := HMM.out; omega
                      have g4 : IntKind.i64.wrap (mm : Int) = (mm : Int) := IntWalk.i64_in _ ⟨by omega, by have := HMM.out; omega⟩
                      have g5 : IntKind.i64.wrap (m2 : Int) = (m2 : Int) := IntWalk.i64_in _ ⟨by omega, by omega⟩
                      have HC := Lib.hid ((Below.refl wc.heap.size wc).drew)
                      have hcase : ((mm : Int) < z ∧ (sy : Int) + (mm : Int) = (m2 : Int)) ∨ (¬ (mm : Int) < z ∧ (sy : Int) + z = (m2 : Int)) := by
                        have h := HLV.out
                        unfold clampN at h
                        omega
                      obtain ⟨W7, hW7⟩ : ∃ W, setDisk (World.drew wc) w.heap.size (.slice A13 m2 c13) (.int .i64 m2) (.int .i64 R) = W := ⟨_, rfl⟩
                      have BW7 : Hid (Below w.heap.size w W7) := Lib.hid (by rw [← hW7]; exact below_setDisk B6.out.drew (Nat.le_refl _) _ _ _)
                      have XW7 : Hid (Whole W7 w.heap.size 24 #[.slice A13 m2 c13, .int .i64 m2, .int .i64 R]) := Lib.hid (by rw [← hW7]; exact (Whole.drew X6.out).disk _ _ _)
                      have OW7 := Lib.hid (show W7.ownsRow (w.heap.size + 1) 5 1 (.slice A13 m2 c13) m2 (bv b2) by rw [← hW7]; exact own_setDisk (w := World.drew wc) O6.out (Nat.lt_succ_self _) _ _ _)
                      have PW7 := Lib.hid (show W7.ownsRow (w.heap.size + 1) 5 1 (.slice A7 sy c7) sy (bv (bs.take sy)) by rw [← hW7]; exact own_setDisk (w := World.drew wc) O76.out (Nat.lt_succ_self _) _ _ _)
                      have hW7' : (((World.drew wc).setCell ⟨w.heap.size, 0, none⟩ (.slice A13 m2 c13)).setCell ⟨w.heap.size, 1, none⟩ (.int .i64 m2)).setCell ⟨w.heap.size, 2, none⟩ (.int .i64 R) = W7 := hW7
                      have hW7'' : (((wc.setCell ⟨w.heap.size, 0, none⟩ (.slice A13 m2 c13)).setCell ⟨w.heap.size, 1, none⟩ (.int .i64 m2)).setCell ⟨w.heap.size, 2, none⟩ (.int .i64 R)).drew = W7 := hW7
                      have HW7 := Lib.hid hW7'
                      have HW7b := Lib.hid hW7''
                      clear hW7 hW7' hW7''
                      have hzc7 := HZC.out _ BW7.out
                      go_upto_region 20 with fail
                      rcases hcase with ⟨q1, q2⟩ | ⟨q1, q2⟩
                      all_goals
                        refine wp_region_held_drew (S := fun W => Below wc.heap.size wc W) (by kernel_rfl) HC.out (fun _ => ?_)
                        refine takeH (i := 0) (v := ?_) rfl (by kernel_rfl) (by kernel_rfl) (by kernel_rfl) (fun _ _ _ h => h) (by rfl) ?_ HC.out ?_
                        rotate_left
                        · intro W hW; obtain ⟨L0, L1, L2, L3, L4⟩ := HL.out W hW; go_simp <;> with_reducible rfl
                        simp only [Act.put, List.setIfInBounds_toArray, List.set_cons_zero, List.set_cons_succ]
                        refine takeH (i := 1) (v := ?_) rfl (by kernel_rfl) (by kernel_rfl) (by kernel_rfl) (fun _ _ _ h => h) (by rfl) ?_ HC.out ?_
                        rotate_left
                        · intro W hW; obtain ⟨L0, L1, L2, L3, L4⟩ := HL.out W hW; go_simp <;> with_reducible rfl
                        simp only [Act.put, List.setIfInBounds_toArray, List.set_cons_zero, List.set_cons_succ]
                        refine takeH (i := 2) (v := ?_) rfl (by kernel_rfl) (by kernel_rfl) (by kernel_rfl) (fun _ _ _ h => h) (by rfl) ?_ HC.out ?_
                        rotate_left
                        · intro W hW; obtain ⟨L0, L1, L2, L3, L4⟩ := HL.out W hW; go_simp <;> with_reducible rfl
                        simp only [Act.put, List.setIfInBounds_toArray, List.set_cons_zero, List.set_cons_succ]
                        refine takeH (i := 3) (v := ?_) rfl (by kernel_rfl) (by kernel_rfl) (by kernel_rfl) (fun _ _ _ h => h) (by rfl) ?_ HC.out ?_
                        rotate_left
                        · intro W hW; obtain ⟨L0, L1, L2, L3, L4⟩ := HL.out W hW; go_simp <;> with_reducible rfl
                        simp only [Act.put, List.setIfInBounds_toArray, List.set_cons_zero, List.set_cons_succ]
                        refine takeH (i := 4) (v := ?_) rfl (by kernel_rfl) (by kernel_rfl) (by kernel_rfl) (fun _ _ _ h => h) (by rfl) ?_ HC.out ?_
                        rotate_left
                        · intro W hW; obtain ⟨L0, L1, L2, L3, L4⟩ := HL.out W hW; go_simp <;> with_reducible rfl
                        simp only [Act.put, List.setIfInBounds_toArray, List.set_cons_zero, List.set_cons_succ]
                        refine takeH (i := 5) (v := ?_) rfl (by kernel_rfl) (by kernel_rfl) (by kernel_rfl) (fun _ _ _ h => h) (by rfl) ?_ HC.out ?_
                        rotate_left
                        · intro W hW; obtain ⟨L0, L1, L2, L3, L4⟩ := HL.out W hW; go_simp <;> with_reducible rfl
                        simp only [Act.put, List.setIfInBounds_toArray, List.set_cons_zero, List.set_cons_succ]
                        refine takeH (i := 6) (v := ?_) rfl (by kernel_rfl) (by kernel_rfl) (by kernel_rfl) (fun _ _ _ h => h) (by rfl) ?_ HC.out ?_
                        rotate_left
                        · intro W hW; obtain ⟨L0, L1, L2, L3, L4⟩ := HL.out W hW; go_simp <;> with_reducible rfl
                        simp only [Act.put, List.setIfInBounds_toArray, List.set_cons_zero, List.set_cons_succ]
                        refine takeH (i := 7) (v := ?_) rfl (by kernel_rfl) (by kernel_rfl) (by kernel_rfl) (fun _ _ _ h => h) (by rfl) ?_ HC.out ?_
                        rotate_left
                        · intro W hW; obtain ⟨L0, L1, L2, L3, L4⟩ := HL.out W hW; go_simp <;> with_reducible rfl
                        simp only [Act.put, List.setIfInBounds_toArray, List.set_cons_zero, List.set_cons_succ]
                        refine takeH (i := 8) (v := ?_) rfl (by kernel_rfl) (by kernel_rfl) (by kernel_rfl) (fun _ _ _ h => h) (by rfl) ?_ HC.out ?_
                        rotate_left
                        · intro W hW; obtain ⟨L0, L1, L2, L3, L4⟩ := HL.out W hW; go_simp <;> with_reducible rfl
                        simp only [Act.put, List.setIfInBounds_toArray, List.set_cons_zero, List.set_cons_succ]
                        refine takeH (i := 9) (v := ?_) rfl (by kernel_rfl) (by kernel_rfl) (by kernel_rfl) (fun _ _ _ h => h) (by rfl) ?_ HC.out ?_
                        rotate_left
                        · intro W hW; obtain ⟨L0, L1, L2, L3, L4⟩ := HL.out W hW; go_simp <;> with_reducible rfl
                        simp only [Act.put, List.setIfInBounds_toArray, List.set_cons_zero, List.set_cons_succ]
                        refine takeH (i := 10) (v := ?_) rfl (by kernel_rfl) (by kernel_rfl) (by kernel_rfl) (fun _ _ _ h => h) (by rfl) ?_ HC.out ?_
                        rotate_left
                        · intro W hW; obtain ⟨L0, L1, L2, L3, L4⟩ := HL.out W hW; go_simp <;> with_reducible rfl
                        simp only [Act.put, List.setIfInBounds_toArray, List.set_cons_zero, List.set_cons_succ]
                        refine takeH (i := 11) (v := ?_) rfl (by kernel_rfl) (by kernel_rfl) (by kernel_rfl) (fun _ _ _ h => h) (by rfl) ?_ HC.out ?_
                        rotate_left
                        · intro W hW; obtain ⟨L0, L1, L2, L3, L4⟩ := HL.out W hW; go_simp <;> with_reducible rfl
                        simp only [Act.put, List.setIfInBounds_toArray, List.set_cons_zero, List.set_cons_succ]
                        refine takeH (i := 12) (v := ?_) rfl (by kernel_rfl) (by kernel_rfl) (by kernel_rfl) (fun _ _ _ h => h) (by rfl) ?_ HC.out ?_
                        rotate_left
                        · intro W hW; obtain ⟨L0, L1, L2, L3, L4⟩ := HL.out W hW; go_simp <;> with_reducible rfl
                        simp only [Act.put, List.setIfInBounds_toArray, List.set_cons_zero, List.set_cons_succ]
                        refine takeH (i := 13) (v := ?_) rfl (by kernel_rfl) (by kernel_rfl) (by kernel_rfl) (fun _ _ _ h => h) (by rfl) ?_ HC.out ?_
                        rotate_left
                        · intro W hW; obtain ⟨L0, L1, L2, L3, L4⟩ := HL.out W hW; go_simp <;> with_reducible rfl
                        simp only [Act.put, List.setIfInBounds_toArray, List.set_cons_zero, List.set_cons_succ]
                        refine takeH (i := 14) (v := ?_) rfl (by kernel_rfl) (by kernel_rfl) (by kernel_rfl) (fun _ _ _ h => h) (by rfl) ?_ HC.out ?_
                        rotate_left
                        · intro W hW; obtain ⟨L0, L1, L2, L3, L4⟩ := HL.out W hW; go_simp <;> with_reducible rfl
                        simp only [Act.put, List.setIfInBounds_toArray, List.set_cons_zero, List.set_cons_succ]
                        refine takeH (i := 15) (v := ?_) rfl (by kernel_rfl) (by kernel_rfl) (by kernel_rfl) (fun _ _ _ h => h) (by rfl) ?_ HC.out ?_
                        rotate_left
                        · intro W hW; obtain ⟨L0, L1, L2, L3, L4⟩ := HL.out W hW; go_simp <;> with_reducible rfl
                        simp only [Act.put, List.setIfInBounds_toArray, List.set_cons_zero, List.set_cons_succ]
                        refine takeH (i := 16) (v := ?_) rfl (by kernel_rfl) (by kernel_rfl) (by kernel_rfl) (fun _ _ _ h => h) (by rfl) ?_ HC.out ?_
                        rotate_left
                        · intro W hW; obtain ⟨L0, L1, L2, L3, L4⟩ := HL.out W hW; go_simp <;> with_reducible rfl
                        simp only [Act.put, List.setIfInBounds_toArray, List.set_cons_zero, List.set_cons_succ]
                        refine takeH (i := 17) (v := ?_) rfl (by kernel_rfl) (by kernel_rfl) (by kernel_rfl) (fun _ _ _ h => h) (by rfl) ?_ HC.out ?_
                        rotate_left
                        · intro W hW; obtain ⟨L0, L1, L2, L3, L4⟩ := HL.out W hW; go_simp <;> with_reducible rfl
                        simp only [Act.put, List.setIfInBounds_toArray, List.set_cons_zero, List.set_cons_succ]
                        refine takeH (i := 18) (v := ?_) rfl (by kernel_rfl) (by kernel_rfl) (by kernel_rfl) (fun _ _ _ h => h) (by rfl) ?_ HC.out ?_
                        rotate_left
                        · intro W hW; obtain ⟨L0, L1, L2, L3, L4⟩ := HL.out W hW; go_simp <;> with_reducible rfl
                        simp only [Act.put, List.setIfInBounds_toArray, List.set_cons_zero, List.set_cons_succ]
                        refine takeH (i := 19) (v := ?_) rfl (by kernel_rfl) (by kernel_rfl) (by kernel_rfl) (fun _ _ _ h => h) (by rfl) ?_ HC.out ?_
                        rotate_left
                        · intro W hW; obtain ⟨L0, L1, L2, L3, L4⟩ := HL.out W hW; go_simp <;> with_reducible rfl
                        simp only [Act.put, List.setIfInBounds_toArray, List.set_cons_zero, List.set_cons_succ]
                        refine takeH (i := 20) (v := ?_) rfl (by kernel_rfl) (by kernel_rfl) (by kernel_rfl) (fun _ _ _ h => h) (by rfl) ?_ HC.out ?_
                        rotate_left
                        · intro W hW; obtain ⟨L0, L1, L2, L3, L4⟩ := HL.out W hW; go_simp <;> with_reducible rfl
                        simp only [Act.put, List.setIfInBounds_toArray, List.set_cons_zero, List.set_cons_succ]
                        refine takeH (i := 21) (v := ?_) rfl (by kernel_rfl) (by kernel_rfl) (by kernel_rfl) (fun _ _ _ h => h) (by rfl) ?_ HC.out ?_
                        rotate_left
                        · intro W hW; obtain ⟨L0, L1, L2, L3, L4⟩ := HL.out W hW; go_simp <;> with_reducible rfl
                        simp only [Act.put, List.setIfInBounds_toArray, List.set_cons_zero, List.set_cons_succ]
                        refine takeH (i := 22) (v := ?_) rfl (by kernel_rfl) (by kernel_rfl) (by kernel_rfl) (fun _ _ _ h => h) (by rfl) ?_ HC.out ?_
                        rotate_left
                        · intro W hW; obtain ⟨L0, L1, L2, L3, L4⟩ := HL.out W hW; go_simp <;> with_reducible rfl
                        simp only [Act.put, List.setIfInBounds_toArray, List.set_cons_zero, List.set_cons_succ]
                        refine takeH (i := 23) (v := ?_) rfl (by kernel_rfl) (by kernel_rfl) (by kernel_rfl) (fun _ _ _ h => h) (by rfl) ?_ HC.out ?_
                        rotate_left
                        · intro W hW; obtain ⟨L0, L1, L2, L3, L4⟩ := HL.out W hW; go_simp <;> with_reducible rfl
                        simp only [Act.put, List.setIfInBounds_toArray, List.set_cons_zero, List.set_cons_succ]
                        refine oneH (i := 24) rfl (by kernel_rfl) (by rfl) (fun K hK => ?_)
                        go_simp
                        refine (HSM20.out _ HC.out).mono ?_
                        rintro e w12 ⟨rfl, rfl⟩
                        refine hK.out _ _ HC.out (fun _ => ?_)
                        clear hK K
                        refine takeH (i := 25) (v := ?_) rfl (by kernel_rfl) (by kernel_rfl) (by kernel_rfl) (fun _ _ _ h => h) (by rfl) ?_ HC.out ?_
                        rotate_left
                        · intro W hW; obtain ⟨L0, L1, L2, L3, L4⟩ := HL.out W hW; go_simp <;> with_reducible rfl
                        simp only [Act.put, List.setIfInBounds_toArray, List.set_cons_zero, List.set_cons_succ]
                        refine takeH (i := 26) (v := ?_) rfl (by kernel_rfl) (by kernel_rfl) (by kernel_rfl) (fun _ _ _ h => h) (by rfl) ?_ HC.out ?_
                        rotate_left
                        · intro W hW; obtain ⟨L0, L1, L2, L3, L4⟩ := HL.out W hW; go_simp <;> with_reducible rfl
                        simp only [Act.put, List.setIfInBounds_toArray, List.set_cons_zero, List.set_cons_succ]
                        refine takeH (i := 27) (v := ?_) rfl (by kernel_rfl) (by kernel_rfl) (by kernel_rfl) (fun _ _ _ h => h) (by rfl) ?_ HC.out ?_
                        rotate_left
                        · intro W hW; obtain ⟨L0, L1, L2, L3, L4⟩ := HL.out W hW; go_simp <;> with_reducible rfl
                        simp only [Act.put, List.setIfInBounds_toArray, List.set_cons_zero, List.set_cons_succ]
                        refine takeH (i := 28) (v := ?_) rfl (by kernel_rfl) (by kernel_rfl) (by kernel_rfl) (fun _ _ _ h => h) (by rfl) ?_ HC.out ?_
                        rotate_left
                        · intro W hW; obtain ⟨L0, L1, L2, L3, L4⟩ := HL.out W hW; go_simp <;> with_reducible rfl
                        simp only [Act.put, List.setIfInBounds_toArray, List.set_cons_zero, List.set_cons_succ]
                        refine takeH (i := 29) (v := ?_) rfl (by kernel_rfl) (by kernel_rfl) (by kernel_rfl) (fun _ _ _ h => h) (by rfl) ?_ HC.out ?_
                        rotate_left
                        · intro W hW; obtain ⟨L0, L1, L2, L3, L4⟩ := HL.out W hW; go_simp <;> with_reducible rfl
                        simp only [Act.put, List.setIfInBounds_toArray, List.set_cons_zero, List.set_cons_succ]
                        refine takeH (i := 30) (v := ?_) rfl (by kernel_rfl) (by kernel_rfl) (by kernel_rfl) (fun _ _ _ h => h) (by rfl) ?_ HC.out ?_
                        rotate_left
                        · intro W hW; obtain ⟨L0, L1, L2, L3, L4⟩ := HL.out W hW; go_simp <;> with_reducible rfl
                        simp only [Act.put, List.setIfInBounds_toArray, List.set_cons_zero, List.set_cons_succ]
                        refine takeH (i := 31) (v := ?_) rfl (by kernel_rfl) (by kernel_rfl) (by kernel_rfl) (fun _ _ _ h => h) (by rfl) ?_ HC.out ?_
                        rotate_left
                        · intro W hW; obtain ⟨L0, L1, L2, L3, L4⟩ := HL.out W hW; go_simp <;> with_reducible rfl
                        simp only [Act.put, List.setIfInBounds_toArray, List.set_cons_zero, List.set_cons_succ]
                        refine takeH (i := 32) (v := ?_) rfl (by kernel_rfl) (by kernel_rfl) (by kernel_rfl) (fun _ _ _ h => h) (by rfl) ?_ HC.out ?_
                        rotate_left
                        · intro W hW; obtain ⟨L0, L1, L2, L3, L4⟩ := HL.out W hW; go_simp <;> with_reducible rfl
                        simp only [Act.put, List.setIfInBounds_toArray, List.set_cons_zero, List.set_cons_succ]
                        refine takeH (i := 33) (v := ?_) rfl (by kernel_rfl) (by kernel_rfl) (by kernel_rfl) (fun _ _ _ h => h) (by rfl) ?_ HC.out ?_
                        rotate_left
                        · intro W hW; obtain ⟨L0, L1, L2, L3, L4⟩ := HL.out W hW; go_simp <;> with_reducible rfl
                        simp only [Act.put, List.setIfInBounds_toArray, List.set_cons_zero, List.set_cons_succ]
                        refine takeH (i := 34) (v := ?_) rfl (by kernel_rfl) (by kernel_rfl) (by kernel_rfl) (fun _ _ _ h => h) (by rfl) ?_ HC.out ?_
                        rotate_left
                        · intro W hW; obtain ⟨L0, L1, L2, L3, L4⟩ := HL.out W hW; go_simp <;> with_reducible rfl
                        simp only [Act.put, List.setIfInBounds_toArray, List.set_cons_zero, List.set_cons_succ]
                        refine takeH (i := 35) (v := ?_) rfl (by kernel_rfl) (by kernel_rfl) (by kernel_rfl) (fun _ _ _ h => h) (by rfl) ?_ HC.out ?_
                        rotate_left
                        · intro W hW; obtain ⟨L0, L1, L2, L3, L4⟩ := HL.out W hW; go_simp <;> with_reducible rfl
                        simp only [Act.put, List.setIfInBounds_toArray, List.set_cons_zero, List.set_cons_succ]
                        refine takeH (i := 36) (v := ?_) rfl (by kernel_rfl) (by kernel_rfl) (by kernel_rfl) (fun _ _ _ h => h) (by rfl) ?_ HC.out ?_
                        rotate_left
                        · intro W hW; obtain ⟨L0, L1, L2, L3, L4⟩ := HL.out W hW; go_simp <;> with_reducible rfl
                        simp only [Act.put, List.setIfInBounds_toArray, List.set_cons_zero, List.set_cons_succ]
                        refine takeH (i := 37) (v := ?_) rfl (by kernel_rfl) (by kernel_rfl) (by kernel_rfl) (fun _ _ _ h => h) (by rfl) ?_ HC.out ?_
                        rotate_left
                        · intro W hW; obtain ⟨L0, L1, L2, L3, L4⟩ := HL.out W hW; go_simp <;> with_reducible rfl
                        simp only [Act.put, List.setIfInBounds_toArray, List.set_cons_zero, List.set_cons_succ]
                        refine takeH (i := 38) (v := ?_) rfl (by kernel_rfl) (by kernel_rfl) (by kernel_rfl) (fun _ _ _ h => h) (by rfl) ?_ HC.out ?_
                        rotate_left
                        · intro W hW; obtain ⟨L0, L1, L2, L3, L4⟩ := HL.out W hW; go_simp <;> with_reducible rfl
                        simp only [Act.put, List.setIfInBounds_toArray, List.set_cons_zero, List.set_cons_succ]
                        refine takeH (i := 39) (v := ?_) rfl (by kernel_rfl) (by kernel_rfl) (by kernel_rfl) (fun _ _ _ h => h) (by rfl) ?_ HC.out ?_
                        rotate_left
                        · intro W hW; obtain ⟨L0, L1, L2, L3, L4⟩ := HL.out W hW; go_simp <;> with_reducible rfl
                        simp only [Act.put, List.setIfInBounds_toArray, List.set_cons_zero, List.set_cons_succ]
                        refine takeH (i := 40) (v := ?_) rfl (by kernel_rfl) (by kernel_rfl) (by kernel_rfl) (fun _ _ _ h => h) (by rfl) ?_ HC.out ?_
                        rotate_left
                        · intro W hW; obtain ⟨L0, L1, L2, L3, L4⟩ := HL.out W hW; go_simp <;> with_reducible rfl
                        simp only [Act.put, List.setIfInBounds_toArray, List.set_cons_zero, List.set_cons_succ]
                        refine takeH (i := 41) (v := ?_) rfl (by kernel_rfl) (by kernel_rfl) (by kernel_rfl) (fun _ _ _ h => h) (by rfl) ?_ HC.out ?_
                        rotate_left
                        · intro W hW; obtain ⟨L0, L1, L2, L3, L4⟩ := HL.out W hW; go_simp <;> with_reducible rfl
                        simp only [Act.put, List.setIfInBounds_toArray, List.set_cons_zero, List.set_cons_succ]
                        refine takeH (i := 42) (v := ?_) rfl (by kernel_rfl) (by kernel_rfl) (by kernel_rfl) (fun _ _ _ h => h) (by rfl) ?_ HC.out ?_
                        rotate_left
                        · intro W hW; obtain ⟨L0, L1, L2, L3, L4⟩ := HL.out W hW; go_simp <;> with_reducible rfl
                        simp only [Act.put, List.setIfInBounds_toArray, List.set_cons_zero, List.set_cons_succ]
                        refine takeH (i := 43) (v := ?_) rfl (by kernel_rfl) (by kernel_rfl) (by kernel_rfl) (fun _ _ _ h => h) (by rfl) ?_ HC.out ?_
                        rotate_left
                        · intro W hW; obtain ⟨L0, L1, L2, L3, L4⟩ := HL.out W hW; go_simp <;> with_reducible rfl
                        simp only [Act.put, List.setIfInBounds_toArray, List.set_cons_zero, List.set_cons_succ]
                        refine takeH (i := 44) (v := ?_) rfl (by kernel_rfl) (by kernel_rfl) (by kernel_rfl) (fun _ _ _ h => h) (by rfl) ?_ HC.out ?_
                        rotate_left
                        · intro W hW; obtain ⟨L0, L1, L2, L3, L4⟩ := HL.out W hW; go_simp <;> with_reducible rfl
                        simp only [Act.put, List.setIfInBounds_toArray, List.set_cons_zero, List.set_cons_succ]
                        refine takeH (i := 45) (v := ?_) rfl (by kernel_rfl) (by kernel_rfl) (by kernel_rfl) (fun _ _ _ h => h) (by rfl) ?_ HC.out ?_
                        rotate_left
                        · intro W hW; obtain ⟨L0, L1, L2, L3, L4⟩ := HL.out W hW; go_simp <;> with_reducible rfl
                        simp only [Act.put, List.setIfInBounds_toArray, List.set_cons_zero, List.set_cons_succ]
                        refine takeH (i := 46) (v := ?_) rfl (by kernel_rfl) (by kernel_rfl) (by kernel_rfl) (fun _ _ _ h => h) (by rfl) ?_ HC.out ?_
                        rotate_left
                        · intro W hW; obtain ⟨L0, L1, L2, L3, L4⟩ := HL.out W hW; go_simp <;> with_reducible rfl
                        simp only [Act.put, List.setIfInBounds_toArray, List.set_cons_zero, List.set_cons_succ]
                        refine wpAnyH_done (by kernel_rfl) ?_ _
                        clear g1 hh g3 g4 g5 q1 q2
                        obtain ⟨x0, x1, x2⟩ := X6.out.cells3
                        have f0 := X6.out.frozen 0
                        have f1 := X6.out.frozen 1
                        have f2 := X6.out.frozen 2
                        obtain ⟨z0, z1, z2⟩ := Z6.out.cells3
                        obtain ⟨xv0, xv1, xv2⟩ := (Whole.drew X6.out).cells3
                        have fv0 := (Whole.drew X6.out).frozen 0
                        have fv1 := (Whole.drew X6.out).frozen 1
                        have fv2 := (Whole.drew X6.out).frozen 2
                        obtain ⟨zv0, zv1, zv2⟩ := (Whole.drew Z6.out).cells3
                        have e1c : decide (m2 < sy) = false := by simp; omega
                        have e2c : decide (m2 < m2) = false := by simp
                        have Cqc := own_cap OW7.out
                        have lqc : w.heap.size < W7.heap.size := XW7.out.lt
                        have hh1 := fun W => run_head A13 m2 c13 sy (by omega) W
                        have hh2 := fun W => run_head A13 m2 c13 m2 (by omega) W
                        have hsm : Calls Try.prog 22 #[.slice A13 sy c13, .slice A7 sy c7] W7 fun e w' => e = .returned (.bool true) ∧ w' = W7 := by
                          have h := same_bytes A13 A7 sy c13 sy c7 (b2.take sy) (bs.take sy) W7.heap.size W7.heap.size W7 (by have h := (Rd.of_own OW7.out).take (k := sy) (by omega); simp only [bv, ← List.map_take] at h; exact h) (Rd.of_own PW7.out) (fun y hy => HOK2.out.byte y (List.mem_of_mem_take hy)) (fun y hy => HOK.out.byte y (List.mem_of_mem_take hy))
                          rwa [show decide (b2.take sy = bs.take sy) = true by rw [decide_eq_true_eq]; exact HTKc.out] at h
                        obtain ⟨A9, c9, W9, e9, o9, b9⟩ := run_copy W7 W7.heap.size A13 m2 c13 (b2.take m2) (by have h := (Rd.of_own OW7.out).take (k := m2) (by omega); simp only [bv, ← List.map_take] at h; exact h) (Nat.le_refl _) (by omega) W7.heap.size rfl
                        have HE9 := Lib.hid e9
                        have HSM := Lib.hid hsm
                        have HO9 := Lib.hid (own_weaker o9 (by have := XW7.out.lt; omega) : W9.ownsRow (w.heap.size + 1) 5 1 (.slice A9 m2 c9) m2 (bv (b2.take m2)))
                        have HB9 := Lib.hid (BW7.out.trans (b9.mono BW7.out.size))
                        have HX9 := Lib.hid (XW7.out.under b9)
                        have HQ9 := Lib.hid (own_under OW7.out b9)
                        clear hsm e9 o9 b9
                        go_wp2_with (first | (rw [HW7.out]; clear x0 x1 x2 f0 f1 f2 z0 z1 z2 xv0 xv1 xv2 fv0 fv1 fv2 zv0 zv1 zv2; obtain ⟨x0, x1, x2⟩ := XW7.out.cells3) | (rw [HW7b.out]; clear x0 x1 x2 f0 f1 f2 z0 z1 z2 xv0 xv1 xv2 fv0 fv1 fv2 zv0 zv1 zv2; obtain ⟨x0, x1, x2⟩ := XW7.out.cells3))
                        refine (HSM.out).mono ?_
                        rintro e wz ⟨rfl, rfl⟩
                        go_wp2_with (at_builtin; refine wpList_app (by rfl) _ _ _ rfl _ _ _ _ rfl rfl HE9.out ?_)
                        go_roundw
                        case rel =>
                          refine ⟨k + 1, b2, m2, A13, c13, A9, c9, by go_num, by omega, rfl, HOK2.out, HB9.out, ?_, ?_, HO9.out⟩
                          · rw [HNM.out]; exact HX9.out
                          · rw [HNM.out]; exact HQ9.out
                        case measure => simp [intOf]; omega
                · by_cases hz1 : z = -1
                  · as_aux_lemma =>
                      subst hz1
                      have hz0' : decide ((0 : Int) ≤ -1) = false := by decide
                      clear hz0
                      have hsy := sync_N (W := W5) HAOK.out HNA.out (Rd.of_own OW5.out) C10
                      have HSY := Lib.hid hsy
                      clear hsy
                      go_wp2_with (rw [HW5.out]; clear x0 x1 x2 f0 f1 f2 z0 z1 z2; obtain ⟨x0, x1, x2⟩ := XW5.out.cells3)
                      refine (HSY.out).mono ?_
                      rintro e w6 ⟨A6, c6, rfl, o6, b6⟩
                      have X6 := XW5.out.under b6
                      have f0 := X6.frozen 0
                      have f1 := X6.frozen 1
                      have f2 := X6.frozen 2
                      clear x0 x1 x2
                      obtain ⟨x0, x1, x2⟩ := X6.cells3
                      have O6 := own_weaker o6 (by have := XW5.out.lt; omega : w.heap.size + 1 ≤ W5.heap.size)
                      have O76 := own_under PW5.out b6
                      have B6 := BW5.out.trans (b6.mono BW5.out.size)
                      obtain ⟨W6, hW6⟩ : ∃ W, setDisk w6 w.heap.size (.slice A6 na c6) (.int .i64 na) (.int .i64 R) = W := ⟨_, rfl⟩
                      have BW6 : Hid (Below w.heap.size w W6) := Lib.hid (by rw [← hW6]; exact below_setDisk B6 (Nat.le_refl _) _ _ _)
                      have XW6 : Hid (Whole W6 w.heap.size 24 #[.slice A6 na c6, .int .i64 na, .int .i64 R]) := Lib.hid (by rw [← hW6]; exact (X6).disk _ _ _)
                      have OW6 := Lib.hid (show W6.ownsRow (w.heap.size + 1) 5 1 (.slice A6 na c6) na (bv ab) by rw [← hW6]; exact own_setDisk O6 (Nat.lt_succ_self _) _ _ _)
                      have PW6 := Lib.hid (show W6.ownsRow (w.heap.size + 1) 5 1 (.slice A7 sy c7) sy (bv (bs.take sy)) by rw [← hW6]; exact own_setDisk O76 (Nat.lt_succ_self _) _ _ _)
                      have hW6' : ((w6.setCell ⟨w.heap.size, 0, none⟩ (.slice A6 na c6)).setCell ⟨w.heap.size, 1, none⟩ (.int .i64 na)).setCell ⟨w.heap.size, 2, none⟩ (.int .i64 R) = W6 := hW6
                      clear hW6
                      have HW6 := Lib.hid hW6'
                      clear hW6' b6 X6 o6 O6 O76 B6
                      have hzc6 := HZC.out _ BW6.out
                      have HTKs := HTKn
                      have e1s : decide (na < sy) = false := by simp; omega
                      have e2s : decide (na < na) = false := by simp
                      have Cqs := own_cap OW6.out
                      have lqs : w.heap.size < W6.heap.size := XW6.out.lt
                      have hh1 := fun W => run_head A6 na c6 sy (by omega) W
                      have hh2 := fun W => run_head A6 na c6 na (by omega) W
                      have hsm : Calls Try.prog 22 #[.slice A6 sy c6, .slice A7 sy c7] W6 fun e w' => e = .returned (.bool true) ∧ w' = W6 := by
                        have h := same_bytes A6 A7 sy c6 sy c7 (ab.take sy) (bs.take sy) W6.heap.size W6.heap.size W6 (by have h := (Rd.of_own OW6.out).take (k := sy) (by omega); simp only [bv, ← List.map_take] at h; exact h) (Rd.of_own PW6.out) (fun y hy => HAOK.out.byte y (List.mem_of_mem_take hy)) (fun y hy => HOK.out.byte y (List.mem_of_mem_take hy))
                        rwa [show decide (ab.take sy = bs.take sy) = true by rw [decide_eq_true_eq]; exact HTKs.out] at h
                      obtain ⟨A9, c9, W9, e9, o9, b9⟩ := run_copy W6 W6.heap.size A6 na c6 (ab.take na) (by have h := (Rd.of_own OW6.out).take (k := na) (by omega); simp only [bv, ← List.map_take] at h; exact h) (Nat.le_refl _) (by omega) W6.heap.size rfl
                      have HE9 := Lib.hid e9
                      have HSM := Lib.hid hsm
                      have HO9 := Lib.hid (own_weaker o9 (by have := XW6.out.lt; omega) : W9.ownsRow (w.heap.size + 1) 5 1 (.slice A9 na c9) na (bv (ab.take na)))
                      have HB9 := Lib.hid (BW6.out.trans (b9.mono BW6.out.size))
                      have HX9 := Lib.hid (XW6.out.under b9)
                      have HQ9 := Lib.hid (own_under OW6.out b9)
                      clear hsm e9 o9 b9
                      go_wp2_with (rw [HW6.out]; clear x0 x1 x2 f0 f1 f2; obtain ⟨x0, x1, x2⟩ := XW6.out.cells3)
                      refine (HSM.out).mono ?_
                      rintro e wz ⟨rfl, rfl⟩
                      go_wp2_with (at_builtin; refine wpList_app (by rfl) _ _ _ rfl _ _ _ _ rfl rfl HE9.out ?_)
                      go_roundw
                      case rel =>
                        refine ⟨k + 1, ab, na, A6, c6, A9, c9, by go_num, by omega, rfl, ⟨Nat.le_of_eq HNA.out.symm, HAOK.out.len, HAOK.out.room, HAOK.out.byte⟩, HB9.out, ?_, ?_, HO9.out⟩
                        · rw [HNA.out]; exact HX9.out
                        · rw [HNA.out]; exact HQ9.out
                      case measure => simp [intOf]; omega
                  · as_aux_lemma =>
                      have hzm : (z == -1) = false := by rw [beq_eq_false_iff_ne]; omega
                      have hz0' : decide (0 ≤ z) = false := by simp; omega
                      clear hz0 hz1
                      have e1n : decide (sy < sy) = false := by simp
                      have e2n : decide (na < sy) = false := by simp; omega
                      have Cqn := own_cap OW5.out
                      have lqn : w.heap.size < W5.heap.size := XW5.out.lt
                      have hh1 := fun W => run_head A10 na c10 sy (by omega) W
                      have hh2 := fun W => run_head A10 na c10 sy (by omega) W
                      have hsm : Calls Try.prog 22 #[.slice A10 sy c10, .slice A7 sy c7] W5 fun e w' => e = .returned (.bool true) ∧ w' = W5 := by
                        have h := same_bytes A10 A7 sy c10 sy c7 (ab.take sy) (bs.take sy) W5.heap.size W5.heap.size W5 (by have h := (Rd.of_own OW5.out).take (k := sy) (by omega); simp only [bv, ← List.map_take] at h; exact h) (Rd.of_own PW5.out) (fun y hy => HAOK.out.byte y (List.mem_of_mem_take hy)) (fun y hy => HOK.out.byte y (List.mem_of_mem_take hy))
                        rwa [show decide (ab.take sy = bs.take sy) = true by rw [decide_eq_true_eq]; exact HTKn.out] at h
                      obtain ⟨A9, c9, W9, e9, o9, b9⟩ := run_copy W5 W5.heap.size A10 sy c10 (ab.take sy) (by have h := (Rd.of_own OW5.out).take (k := sy) (by omega); simp only [bv, ← List.map_take] at h; exact h) (Nat.le_refl _) (by omega) W5.heap.size rfl
                      have HE9 := Lib.hid e9
                      have HSM := Lib.hid hsm
                      have HO9 := Lib.hid (own_weaker o9 (by have := XW5.out.lt; omega) : W9.ownsRow (w.heap.size + 1) 5 1 (.slice A9 sy c9) sy (bv (ab.take sy)))
                      have HB9 := Lib.hid (BW5.out.trans (b9.mono BW5.out.size))
                      have HX9 := Lib.hid (XW5.out.under b9)
                      have HQ9 := Lib.hid (own_under OW5.out b9)
                      clear hsm e9 o9 b9
                      go_wp2_with (rw [HW5.out]; clear x0 x1 x2 f0 f1 f2 z0 z1 z2; obtain ⟨x0, x1, x2⟩ := XW5.out.cells3)
                      refine (HSM.out).mono ?_
                      rintro e wz ⟨rfl, rfl⟩
                      go_wp2_with (at_builtin; refine wpList_app (by rfl) _ _ _ rfl _ _ _ _ rfl rfl HE9.out ?_)
                      go_roundw
                      case rel =>
                        refine ⟨k + 1, ab, sy, A10, c10, A9, c9, by go_num, by omega, rfl, HAOK.out, HB9.out, ?_, ?_, HO9.out⟩
                        · rw [HNA.out]; exact HX9.out
                        · rw [HNA.out]; exact HQ9.out
                      case measure => simp [intOf]; omega
              · as_aux_lemma =>
                  have hkn' : decide (k < n2) = false := by simp; omega
                  have e1n : decide (sy < sy) = false := by simp
                  have e2n : decide (na < sy) = false := by simp; omega
                  have Cqn := own_cap OW5.out
                  have lqn : w.heap.size < W5.heap.size := XW5.out.lt
                  have hh1 := fun W => run_head A10 na c10 sy (by omega) W
                  have hh2 := fun W => run_head A10 na c10 sy (by omega) W
                  have hsm : Calls Try.prog 22 #[.slice A10 sy c10, .slice A7 sy c7] W5 fun e w' => e = .returned (.bool true) ∧ w' = W5 := by
                    have h := same_bytes A10 A7 sy c10 sy c7 (ab.take sy) (bs.take sy) W5.heap.size W5.heap.size W5 (by have h := (Rd.of_own OW5.out).take (k := sy) (by omega); simp only [bv, ← List.map_take] at h; exact h) (Rd.of_own PW5.out) (fun y hy => HAOK.out.byte y (List.mem_of_mem_take hy)) (fun y hy => HOK.out.byte y (List.mem_of_mem_take hy))
                    rwa [show decide (ab.take sy = bs.take sy) = true by rw [decide_eq_true_eq]; exact HTKn.out] at h
                  obtain ⟨A9, c9, W9, e9, o9, b9⟩ := run_copy W5 W5.heap.size A10 sy c10 (ab.take sy) (by have h := (Rd.of_own OW5.out).take (k := sy) (by omega); simp only [bv, ← List.map_take] at h; exact h) (Nat.le_refl _) (by omega) W5.heap.size rfl
                  have HE9 := Lib.hid e9
                  have HSM := Lib.hid hsm
                  have HO9 := Lib.hid (own_weaker o9 (by have := XW5.out.lt; omega) : W9.ownsRow (w.heap.size + 1) 5 1 (.slice A9 sy c9) sy (bv (ab.take sy)))
                  have HB9 := Lib.hid (BW5.out.trans (b9.mono BW5.out.size))
                  have HX9 := Lib.hid (XW5.out.under b9)
                  have HQ9 := Lib.hid (own_under OW5.out b9)
                  clear hsm e9 o9 b9
                  go_wp2_with (rw [HW5.out]; clear x0 x1 x2 f0 f1 f2 z0 z1 z2; obtain ⟨x0, x1, x2⟩ := XW5.out.cells3)
                  refine (HSM.out).mono ?_
                  rintro e wz ⟨rfl, rfl⟩
                  go_wp2_with (at_builtin; refine wpList_app (by rfl) _ _ _ rfl _ _ _ _ rfl rfl HE9.out ?_)
                  go_roundw
                  case rel =>
                    refine ⟨k + 1, ab, sy, A10, c10, A9, c9, by go_num, by omega, rfl, HAOK.out, HB9.out, ?_, ?_, HO9.out⟩
                    · rw [HNA.out]; exact HX9.out
                    · rw [HNA.out]; exact HQ9.out
                  case measure => simp [intOf]; omega
      · have d4 : (40 : Int) < (nx : Int) := by omega
        clear hb hx hok hr3
        go_wp2_with fail
        refine (wakesD_any _).mono ?_
        rintro e w5 ⟨rfl, b5⟩
        have B5 := Lib.hid (HBr.out.trans (b5.mono HBr.out.size))
        clear b5
        go_wp2_with fail
        go_ret
        exact ⟨rfl, B5.out⟩
    · obtain rfl : n1 = k := by omega
      have HBr := Lib.hid hb
      clear hb hx hok hr3
      go_wp2_with fail
      refine (wakesD_any _).mono ?_
      rintro e w5 ⟨rfl, b5⟩
      have B5 := Lib.hid (HBr.out.trans (b5.mono HBr.out.size))
      clear b5
      go_wp2_with fail
      go_ret
      exact ⟨rfl, B5.out⟩

theorem diskStays_walk (A : Option Addr) (n c : Nat) (s r : Int) (bs : List Nat) (A1 : Option Addr) (n1 c1 : Nat) (l : List BE) (A2 : Option Addr) (n2 c2 : Nat) (zs : List Int) (w : World) (hr : Rd w w.heap.size A n (bv bs)) (hby : ∀ x ∈ bs, x < 256) (hc : n ≤ c) (hl : RdB w w.heap.size A1 n1 l) (hz : Rd w w.heap.size A2 n2 (iv zs)) :
    Calls Try.prog 4 #[diskV A n c s r, .slice A1 n1 c1, .slice A2 n2 c2] w (TruePost w) := by
  by_cases hn : n ≤ 400
  · by_cases hn1 : n1 ≤ 20
    · exact diskStays_in A n c s r bs A1 n1 c1 l A2 n2 c2 zs w hr hc hby hl hz hn hn1 (cnt bs s r).bs (cnt bs s r).syn (cnt bs s r).room rfl
    · exact diskStays_out A n c s r A1 n1 c1 A2 n2 c2 w (.inr ⟨hn, by omega⟩)
  · exact diskStays_out A n c s r A1 n1 c1 A2 n2 c2 w (.inl (by omega))

end Go.Proofs.Ytekffkoggnbgeaa
