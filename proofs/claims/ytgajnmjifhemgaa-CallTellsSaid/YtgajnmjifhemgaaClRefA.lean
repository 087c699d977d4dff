/-
  The walks of the document's own 'kind', 'number', 'own', 'Begin', 'Has' and 'Find' of calls. Conditions: those that each theorem names.
-/
import Derived.Test.YtgajnmjifhemgaaClSame
import Derived.Test.YtgajnmjifhemgaaClHas
namespace Go.Proofs.Ytgajnmjifhemgaa
open Go.RowKit Go.Shelf

set_option maxRecDepth 100000 in
theorem rkind_any (k : Int) (w : World) : Calls Try.prog 32 #[.int .u8 k] w fun e w' => e = .returned (.bool (kindB k)) ∧ w' = w := by
  unfold kindB
  cases h : decide (1 ≤ k) with
  | true =>
    go_enter Try.func32, Try.ntmps32
    go_wp2_with fail
    go_ret
    exact ⟨by simp, rfl⟩
  | false =>
    go_enter Try.func32, Try.ntmps32
    go_wp2_with fail
    go_ret
    exact ⟨by simp, rfl⟩
set_option maxRecDepth 100000 in
theorem rnumber_any (n : Int) (w : World) : Calls Try.prog 33 #[.int .i64 n] w fun e w' => e = .returned (.bool (isNum n)) ∧ w' = w := by
  unfold isNum
  cases h : decide (0 ≤ n) with
  | true =>
    go_enter Try.func33, Try.ntmps33
    go_wp2_with fail
    go_ret
    exact ⟨by simp, rfl⟩
  | false =>
    go_enter Try.func33, Try.ntmps33
    go_wp2_with fail
    go_ret
    exact ⟨by simp, rfl⟩

set_option maxRecDepth 100000 in
set_option maxHeartbeats 1000000 in
theorem rown_any (c : Cs) (A : Option Addr) (n k : Nat) (B : Nat) (w : World) (hr : RdC w B A n c.l) (hB : B ≤ w.heap.size) (hn : n ≤ 1000) :
    Calls Try.prog 31 #[.agg #[.int .i64 c.ep, .int .i64 c.nx, .slice A n k]] w (CsPost c w) := by
  obtain ⟨ep, nx, l⟩ := c
  simp only at hr
  obtain ⟨hb, h1, h2⟩ := two_new w 24 24 #[.int .i64 ep, .int .i64 nx, .slice A n k] #[.int .i64 0, .int .i64 0, .slice none 0 0]
  have hl := hr.len
  obtain ⟨V, hV⟩ : ∃ V, (w.alloc (.cells #[.int .i64 ep, .int .i64 nx, .slice A n k] 24)).alloc (.cells #[.int .i64 0, .int .i64 0, .slice none 0 0] 24) = V := ⟨_, rfl⟩
  have hs : V.heap.size = w.heap.size + 1 + 1 := by rw [← hV]; simp
  rw [hV] at hb h1 h2
  have ho0 : CallsAt w.heap.size (V.alloc (.cells #[] 31)) (.slice (some ⟨V.heap.size, 0, none⟩) 0 0) [] := World.ownsRow_made (base := w.heap.size) (e := 31) (size := 4) V #[] 0 (by omega) (Nat.zero_le _) rfl
  have b3 := (Below.refl V.heap.size V).alloc (Nat.le_refl _) (.cells #[] 31)
  obtain ⟨A2, c2, W2, hrun, ho, hg, hwh⟩ := calls_app (V.alloc (.cells #[] 31)) w.heap.size _ [] ho0 B A n k l (hr.below ((hb.mono hB).trans (b3.mono (by omega)))) (by simp; omega) (by simp; omega)
  simp only [List.length_nil, Nat.zero_add, List.nil_append] at hrun ho
  rw [hs] at hrun
  have g1 := hwh _ _ _ (h1.under b3) (by decide)
  have g2 := hwh _ _ _ (h2.under b3) (by decide)
  have hb2 : Below w.heap.size w W2 := (hb.trans (b3.mono hb.size)).grown hg (by simp; omega) (by simp [Value.ownBlock] <;> omega)
  obtain ⟨p0, p1, p2⟩ := cells3 g1
  obtain ⟨s0, s1, s2⟩ := cells3 (h1.under b3)
  have q2 := g1.frozen 2
  obtain ⟨r0, r1, r2⟩ := cells3 g2
  have z0 := g2.frozen 0
  have z1 := g2.frozen 1
  have z2 := g2.frozen 2
  have HR := Lib.hid hrun
  have HO := Lib.hid ho
  have HB := Lib.hid hb2
  have G1 := Lib.hid g1
  have G2 := Lib.hid g2
  have HL := Lib.hid hl
  have HV := Lib.hid hV
  have HS := Lib.hid hs
  clear hr hb h1 h2 hrun ho hg hwh g1 g2 hb2 hB hn hl ho0 b3 hV hs
  go_enter Try.func31, Try.ntmps31
  go_upto_region 1 with fail
  rw [HV.out]
  have hs := HS.out
  clear HV
  go_wp2_with (at_builtin; refine wpList_app (by rfl) _ _ 22 rfl _ _ _ W2 (by rfl) (by rfl) HR.out ?_)
  have k1 := Only.set W2 w.heap.size 2 (.slice A2 n c2)
  obtain ⟨e2, k2⟩ := put3 (k1.far G2.out (by omega)) (.int .i64 ep) (.int .i64 nx) (.slice A2 n c2)
  obtain ⟨y0, y1, y2⟩ := cells3 e2
  refine bodyPost_ret (v := .agg #[.int .i64 ep, .int .i64 nx, .slice A2 n c2]) (by simp [results, Try.results31, go_sem, y0, y1, y2]) rfl ⟨A2, c2, by rw [HL.out], ?_, k2.bel (k1.bel HB.out (Nat.le_refl _)) (by omega)⟩
  rw [HL.out]
  exact (HO.out.only k1 G1.out (by decide)).only k2 (k1.far G2.out (by omega)) (by decide)

set_option maxRecDepth 100000 in
set_option maxHeartbeats 1000000 in
theorem rbegin_any (ep : Int) (w : World) : Calls Try.prog 15 #[.int .i64 ep] w (CsPost2 (beginC ep) (.int .i64 (beginE ep)) w) := by
  obtain ⟨V, hV⟩ : ∃ V, w.alloc (.cells #[.int .i64 0, .int .i64 0, .slice none 0 0] 24) = V := ⟨_, rfl⟩
  have hw : Whole V w.heap.size 24 #[.int .i64 0, .int .i64 0, .slice none 0 0] := by rw [← hV]; exact Whole.new _ _ _
  have hb : Below w.heap.size w V := by rw [← hV]; exact (Below.refl _ _).alloc (Nat.le_refl _) _
  obtain ⟨r0, r1, r2⟩ := cells3 hw
  have z0 := hw.frozen 0
  have z1 := hw.frozen 1
  have z2 := hw.frozen 2
  have HW := Lib.hid hw
  have HB := Lib.hid hb
  clear hw hb
  have fin : ∀ (t : Act) (a b : Int), True := fun _ _ _ => trivial
  clear fin
  cases h1 : decide (0 ≤ ep) with
  | false =>
    have hn0 : decide (ep < 0) = true := by simp at h1; simp [h1]
    have E1 := Lib.hid (show beginC ep = ⟨0, 0, []⟩ by simp [beginC, beginB, h1])
    have E2 := Lib.hid (show beginE ep = 2 by simp [beginE, beginB, h1])
    clear h1
    go_enter Try.func15, Try.ntmps15
    go_wp2_with fail
    obtain ⟨e4, k4⟩ := put3 HW.out (.int .i64 0) (.int .i64 0) (.slice none 0 0)
    obtain ⟨y0, y1, y2⟩ := cells3 e4
    exact bodyPost_ret (v := .tuple #[.agg #[.int .i64 0, .int .i64 0, .slice none 0 0], .int .i64 2]) (by simp [results, Try.results15, go_sem, y0, y1, y2]) rfl (by rw [E1.out, E2.out]; exact ⟨none, 0, rfl, CallsAt.nil_ _ _, k4.bel HB.out (Nat.le_refl _)⟩)
  | true =>
  have hn0 : decide (ep < 0) = false := by simp at h1; simp; omega
  cases h2 : decide (ep ≤ 524288) with
  | false =>
    have hn1 : decide ((524288 : Int) < ep) = true := by simp at h2; simp [h2]
    have E1 := Lib.hid (show beginC ep = ⟨0, 0, []⟩ by simp [beginC, beginB, h2])
    have E2 := Lib.hid (show beginE ep = 2 by simp [beginE, beginB, h2])
    clear h1 h2
    go_enter Try.func15, Try.ntmps15
    go_wp2_with fail
    obtain ⟨e4, k4⟩ := put3 HW.out (.int .i64 0) (.int .i64 0) (.slice none 0 0)
    obtain ⟨y0, y1, y2⟩ := cells3 e4
    exact bodyPost_ret (v := .tuple #[.agg #[.int .i64 0, .int .i64 0, .slice none 0 0], .int .i64 2]) (by simp [results, Try.results15, go_sem, y0, y1, y2]) rfl (by rw [E1.out, E2.out]; exact ⟨none, 0, rfl, CallsAt.nil_ _ _, k4.bel HB.out (Nat.le_refl _)⟩)
  | true =>
    have hn1 : decide ((524288 : Int) < ep) = false := by simp at h2; simp; omega
    have E1 := Lib.hid (show beginC ep = ⟨ep, 1, []⟩ by simp [beginC, beginB, h1, h2])
    have E2 := Lib.hid (show beginE ep = 0 by simp [beginE, beginB, h1, h2])
    clear h1 h2
    go_enter Try.func15, Try.ntmps15
    go_wp2_with fail
    obtain ⟨e4, k4⟩ := put3 HW.out (.int .i64 ep) (.int .i64 1) (.slice none 0 0)
    obtain ⟨y0, y1, y2⟩ := cells3 e4
    exact bodyPost_ret (v := .tuple #[.agg #[.int .i64 ep, .int .i64 1, .slice none 0 0], .int .i64 0]) (by simp [results, Try.results15, go_sem, y0, y1, y2]) rfl (by rw [E1.out, E2.out]; exact ⟨none, 0, rfl, CallsAt.nil_ _ _, k4.bel HB.out (Nat.le_refl _)⟩)

set_option maxRecDepth 100000 in
set_option maxHeartbeats 1000000 in
theorem rhas_any (c : Cs) (A : Option Addr) (n k : Nat) (kind key : Int) (B : Nat) (w : World) (hr : RdC w B A n c.l) (hB : B ≤ w.heap.size) (hn : n ≤ 1000) :
    Calls Try.prog 20 #[.agg #[.int .i64 c.ep, .int .i64 c.nx, .slice A n k], .int .u8 kind, .int .i64 key] w (BoolPost (hasC c kind key) w) := by
  obtain ⟨V, hV⟩ : ∃ V, w.alloc (.cells #[.int .i64 c.ep, .int .i64 c.nx, .slice A n k] 24) = V := ⟨_, rfl⟩
  have hw : Whole V w.heap.size 24 #[.int .i64 c.ep, .int .i64 c.nx, .slice A n k] := by rw [← hV]; exact Whole.new _ _ _
  have hb : Below w.heap.size w V := by rw [← hV]; exact (Below.refl _ _).alloc (Nat.le_refl _) _
  obtain ⟨c0, c1, c2⟩ := cells3 hw
  have HR := Lib.hid (show RdC V B A n c.l from hr.below (hb.mono hB))
  have HL := Lib.hid hr.len
  have HB := Lib.hid hb
  obtain ⟨r, hres⟩ : ∃ r, hasC c kind key = r := ⟨_, rfl⟩
  rw [hres]
  have HRes := Lib.hid hres
  have HV := Lib.hid hV
  clear hw hb hr hB hres hV
  go_enter Try.func20, Try.ntmps20
  go_upto_region 1 with fail
  rw [HV.out]
  clear HV
  go_wp2_with fail
  go_loopw [7] (fun i wr => ∃ j : Nat, i = .int .i64 (j : Int) ∧ j ≤ n ∧ (∀ y ∈ c.l.take j, ¬ (y.kind = kind ∧ y.key = key)) ∧ wr = V) (fun i _ => n - (intOf i).toNat)
  case atStart => exact ⟨0, rfl, Nat.zero_le _, by simp, rfl⟩
  case round =>
    obtain ⟨j, rfl, hj, hT, rfl⟩ := hrel
    have HT := Lib.hid hT
    clear hT
    by_cases hlt : j < n
    · obtain ⟨b, off, rfl, _, hc⟩ := RdC.at_ HR.out (by omega)
      obtain ⟨x, hx⟩ : ∃ x, c.l[j]? = some x := ⟨_, List.getElem?_eq_getElem (by rw [HL.out]; exact hlt)⟩
      obtain ⟨g0, g1, g2, g3⟩ := hc j x hx
      have hI : (j : Int) < (n : Int) := by omega
      have HX := Lib.hid hx
      have HF : Hid (x.kind = kind ∧ x.key = key → r = true) := Lib.hid (fun h => by rw [← HRes.out, hasC, List.any_eq_true]; exact ⟨x, List.mem_of_getElem? hx, by simp [h]⟩)
      have HG : Hid (¬ (x.kind = kind ∧ x.key = key) → ∀ y ∈ c.l.take (j + 1), ¬ (y.kind = kind ∧ y.key = key)) := Lib.hid (fun h y hy => by
        rw [List.take_succ_eq_append_getElem (List.getElem?_eq_some_iff.1 hx).1, (List.getElem?_eq_some_iff.1 hx).2, List.mem_append, List.mem_singleton] at hy
        rcases hy with hy | rfl
        · exact HT.out y hy
        · exact h)
      clear hc hx
      by_cases h1 : x.kind = kind
      rotate_left
      · have q0 : (x.kind == kind) = false := by simp [h1]
        have HN := Lib.hid (HG.out (fun h => h1 h.1))
        clear h1
        go_wp2_with fail
        go_roundw
        case rel => exact ⟨j + 1, by go_num, by omega, HN.out, by first | rfl | trivial⟩
        case measure => simp [intOf]; omega
      have q0 : (x.kind == kind) = true := by simp [h1]
      by_cases h2 : x.key = key
      · have q1 : (x.key == key) = true := by simp [h2]
        have HN := Lib.hid (HF.out ⟨h1, h2⟩)
        clear h1 h2
        go_wp2_with fail
        go_ret
        exact ⟨by rw [HN.out]; rfl, HB.out⟩
      · have q1 : (x.key == key) = false := by simp [h2]
        have HN := Lib.hid (HG.out (fun h => h2 h.2))
        clear h1 h2
        go_wp2_with fail
        go_roundw
        case rel => exact ⟨j + 1, by go_num, by omega, HN.out, by first | rfl | trivial⟩
        case measure => simp [intOf]; omega
    · have HF := Lib.hid (show r = false by
        rw [← HRes.out, hasC, List.any_eq_false]
        intro y hy
        have h1 := HT.out y (by rw [List.take_of_length_le (by have := HL.out; omega)]; exact hy)
        simpa using h1)
      go_wp2_with fail
      go_ret
      exact ⟨by rw [HF.out]; rfl, HB.out⟩

set_option maxRecDepth 100000 in
set_option maxHeartbeats 1000000 in
theorem rfind_any (c : Cs) (A : Option Addr) (n k : Nat) (id : Int) (B : Nat) (w : World) (hr : RdC w B A n c.l) (hB : B ≤ w.heap.size) (hn : n ≤ 1000) :
    Calls Try.prog 13 #[.agg #[.int .i64 c.ep, .int .i64 c.nx, .slice A n k], .int .i64 id] w (FindPost (findC c id) w) := by
  obtain ⟨hb, w0, w1⟩ := two_new w 24 31 #[.int .i64 c.ep, .int .i64 c.nx, .slice A n k] #[.int .i64 0, .int .u8 0, .int .i64 0, .int .i64 0]
  obtain ⟨V, hV⟩ : ∃ V, (w.alloc (.cells #[.int .i64 c.ep, .int .i64 c.nx, .slice A n k] 24)).alloc (.cells #[.int .i64 0, .int .u8 0, .int .i64 0, .int .i64 0] 31) = V := ⟨_, rfl⟩
  rw [hV] at hb w0 w1
  obtain ⟨c0, c1, c2⟩ := cells3 w0
  obtain ⟨r0, r1, r2, r3⟩ := cells4 w1
  have z0 := w1.frozen 0
  have z1 := w1.frozen 1
  have z2 := w1.frozen 2
  have z3 := w1.frozen 3
  have HR := Lib.hid (show RdC V B A n c.l from hr.below (hb.mono hB))
  have HL := Lib.hid hr.len
  have HB := Lib.hid hb
  have HW1 := Lib.hid w1
  obtain ⟨r, hres⟩ : ∃ r, findC c id = r := ⟨_, rfl⟩
  rw [hres]
  have HRes := Lib.hid hres
  have HV := Lib.hid hV
  clear w0 w1 hb hr hB hres hV
  go_enter Try.func13, Try.ntmps13
  go_upto_region 1 with fail
  rw [HV.out]
  clear HV
  go_wp2_with fail
  go_loopw [6] (fun i wr => ∃ j : Nat, i = .int .i64 (j : Int) ∧ j ≤ n ∧ (∀ y ∈ c.l.take j, decide (y.id = id) = false) ∧ wr = V) (fun i _ => n - (intOf i).toNat)
  case atStart => exact ⟨0, rfl, Nat.zero_le _, by simp, rfl⟩
  case round =>
    obtain ⟨j, rfl, hj, hT, rfl⟩ := hrel
    have HT := Lib.hid hT
    clear hT
    by_cases hlt : j < n
    · obtain ⟨b, off, rfl, _, hc⟩ := RdC.at_ HR.out (by omega)
      obtain ⟨x, hx⟩ : ∃ x, c.l[j]? = some x := ⟨_, List.getElem?_eq_getElem (by rw [HL.out]; exact hlt)⟩
      obtain ⟨g0, g1, g2, g3⟩ := hc j x hx
      have hI : (j : Int) < (n : Int) := by omega
      have HX := Lib.hid hx
      clear hc hx
      by_cases h1 : x.id = id
      rotate_left
      · have q0 : (x.id == id) = false := by simp [h1]
        have HN : Hid (∀ y ∈ c.l.take (j + 1), decide (y.id = id) = false) := Lib.hid (fun y hy => by
          rw [List.take_succ_eq_append_getElem (List.getElem?_eq_some_iff.1 HX.out).1, (List.getElem?_eq_some_iff.1 HX.out).2, List.mem_append, List.mem_singleton] at hy
          rcases hy with hy | rfl
          · exact HT.out y hy
          · exact decide_eq_false h1)
        clear h1
        go_wp2_with fail
        go_roundw
        case rel => exact ⟨j + 1, by go_num, by omega, HN.out, by first | rfl | trivial⟩
        case measure => simp [intOf]; omega
      have q0 : (x.id == id) = true := by simp [h1]
      have HN := Lib.hid (HRes.out.symm.trans (find_first HX.out (decide_eq_true h1) HT.out))
      clear h1
      go_wp2_with fail
      obtain ⟨e4, k4⟩ := put4 HW1.out (.int .i64 x.id) (.int .u8 x.kind) (.int .i64 x.key) (.int .i64 x.sent)
      obtain ⟨y0, y1, y2, y3⟩ := cells4 e4
      exact bodyPost_ret (v := .tuple #[.agg #[.int .i64 x.id, .int .u8 x.kind, .int .i64 x.key, .int .i64 x.sent], .bool true]) (by simp [results, Try.results13, go_sem, y0, y1, y2, y3]) rfl (by rw [HN.out]; exact ⟨rfl, k4.bel HB.out (by omega)⟩)
    · have HN := Lib.hid (show r = none by
        rw [← HRes.out, findC, List.find?_eq_none]
        intro y hy
        have h1 := HT.out y (by rw [List.take_of_length_le (by have := HL.out; omega)]; exact hy)
        simpa using h1)
      go_wp2_with fail
      obtain ⟨e4, k4⟩ := put4 HW1.out (.int .i64 0) (.int .u8 0) (.int .i64 0) (.int .i64 0)
      obtain ⟨y0, y1, y2, y3⟩ := cells4 e4
      exact bodyPost_ret (v := .tuple #[.agg #[.int .i64 0, .int .u8 0, .int .i64 0, .int .i64 0], .bool false]) (by simp [results, Try.results13, go_sem, y0, y1, y2, y3]) rfl (by rw [HN.out]; exact ⟨rfl, k4.bel HB.out (by omega)⟩)

end Go.Proofs.Ytgajnmjifhemgaa
