/-
  Disks as they count, in plain words, and the walks of 'within', 'counted' and 'Own' of package disk. Conditions: those that each theorem names.
-/
import Derived.Test.YtekffkoggnbgeaaMem
namespace Go.Proofs.Ytekffkoggnbgeaa
open Go.RowKit Go.Shelf

/-- A disk as it counts. -/
structure Dk where
  bs : List Nat
  syn : Nat
  room : Nat
deriving DecidableEq

/-- A number held within 0 and a top. -/
def clampN (n : Int) (top : Nat) : Nat := min n.toNat top
theorem clampN_le (n : Int) (top : Nat) : clampN n top ≤ top := Nat.min_le_right _ _
theorem clampN_self {n top : Nat} (h : n ≤ top) : clampN (n : Int) top = n := by unfold clampN; omega
theorem clampN_int (n : Int) (top : Nat) : min (max n 0) (top : Int) = (clampN n top : Int) := by unfold clampN; omega
def cnt (bs : List Nat) (s r : Int) : Dk := ⟨bs.take (clampN r 65536), clampN s (bs.take (clampN r 65536)).length, clampN r 65536⟩

structure Dk.Ok (D : Dk) : Prop where
  syn : D.syn ≤ D.bs.length
  len : D.bs.length ≤ D.room
  room : D.room ≤ 65536
  byte : ∀ x ∈ D.bs, x < 256
theorem cnt_ok {bs : List Nat} (s r : Int) (hb : ∀ x ∈ bs, x < 256) : (cnt bs s r).Ok :=
  ⟨clampN_le _ _, by simp only [cnt, List.length_take]; omega, clampN_le _ _, fun x hx => hb x (List.mem_of_mem_take hx)⟩
theorem cnt_self {D : Dk} (h : D.Ok) : cnt D.bs D.syn D.room = D := by
  obtain ⟨h1, h2, h3, _⟩ := h
  cases D with
  | mk bs syn room =>
    simp only at h1 h2 h3
    simp only [cnt, clampN_self h3, List.take_of_length_le h2, clampN_self h1]

/-- A disk, as a value. -/
abbrev diskV (A : Option Addr) (n c : Nat) (s r : Int) : Value := .agg #[.slice A n c, .int .i64 s, .int .i64 r]

theorem ret_int {k : IntKind} {a b : Int} (h : a = b) : Ending.returned (.int k a) = .returned (.int k b) := by rw [h]

set_option maxHeartbeats 400000 in
theorem within_any (n : Int) (top : Nat) (w : World) : Calls Try.prog 36 #[.int .i64 n, .int .i64 (top : Int)] w fun e w' => e = .returned (.int .i64 (clampN n top : Int)) ∧ w = w' := by
  go_enter Try.func36, Try.ntmps36
  go_wp2
  all_goals
    rename_i h1
    go_ret
    refine ⟨ret_int ?_, rfl⟩
    unfold clampN
    split at h1 <;> omega

abbrev diskB (A : Option Addr) (n c : Nat) (s r : Int) : Obj := .cells #[.slice A n c, .int .i64 s, .int .i64 r] 24
/-- A disk that is told: in one block, and in another one. -/
def CountedIs (A : Option Addr) (n c : Nat) (s r : Int) (w : World) (e : Ending) (w' : World) : Prop :=
  e = .returned (diskV A n c s r) ∧ w' = (w.alloc (diskB A n c s r)).alloc (diskB A n c s r)
theorem CountedIs.below {A : Option Addr} {n c : Nat} {s r : Int} {w w' : World} {e : Ending} (h : CountedIs A n c s r w e w') : Below w.heap.size w w' := by
  obtain ⟨_, rfl⟩ := h
  exact ((Below.refl _ w).alloc (Nat.le_refl _) _).alloc (by simp) _

set_option maxHeartbeats 800000 in
theorem counted_len (A : Option Addr) (n c : Nat) (s r : Int) (bs : List Nat) (w : World) (hl : bs.length = n) (hc : n ≤ c) :
    Calls Try.prog 31 #[diskV A n c s r] w (CountedIs A (cnt bs s r).bs.length c (cnt bs s r).syn (cnt bs s r).room w) := by
  obtain ⟨R, hR⟩ : ∃ R, clampN r 65536 = R := ⟨_, rfl⟩
  obtain ⟨K, hK⟩ : ∃ K, min R n = K := ⟨_, rfl⟩
  have hKl : (bs.take R).length = K := by rw [List.length_take, hl, hK]
  obtain ⟨S, hS⟩ : ∃ S, clampN s K = S := ⟨_, rfl⟩
  have hW1 := within_any r 65536
  rw [hR] at hW1
  have HW1 := Lib.hid hW1
  have hW2 := within_any s K
  rw [hS] at hW2
  have HW2 := Lib.hid hW2
  have e1 : (cnt bs s r).bs.length = K := by simp only [cnt, hR, hKl]
  have e2 : (cnt bs s r).syn = S := by simp only [cnt, hR, hKl, hS]
  have e3 : (cnt bs s r).room = R := by simp only [cnt, hR]
  rw [e1, e2, e3]
  have hKc : K ≤ c := by omega
  have HH := Lib.hid (fun W => run_head A n c K hKc W)
  have hR2 : R ≤ 65536 := by rw [← hR]; exact clampN_le _ _
  clear hW1 hW2 e1 e2 e3 hKl hl hS hR
  rcases Nat.lt_or_ge n R with hlt | hge
  · obtain rfl : n = K := by omega
    have hlt' : (n : Int) < (R : Int) := by omega
    clear hK hlt
    go_enter Try.func31, Try.ntmps31
    go_wp2_with fail
    refine (HW1.out _).mono ?_
    rintro e w1 ⟨rfl, rfl⟩
    have h0 := HH.out
    go_wp2_with fail
    refine (HW2.out _).mono ?_
    rintro e w1 ⟨rfl, rfl⟩
    go_wp2_with fail
    exact bodyPost_ret (v := diskV A n c S R) (by simp [results, Try.results31, go_sem]) rfl ⟨rfl, rfl⟩
  · obtain rfl : R = K := by omega
    have hge' : (R : Int) ≤ (n : Int) := by omega
    clear hK hge
    go_enter Try.func31, Try.ntmps31
    go_wp2_with fail
    refine (HW1.out _).mono ?_
    rintro e w1 ⟨rfl, rfl⟩
    have h0 := HH.out
    go_wp2_with fail
    refine (HW2.out _).mono ?_
    rintro e w1 ⟨rfl, rfl⟩
    go_wp2_with fail
    exact bodyPost_ret (v := diskV A R c S R) (by simp [results, Try.results31, go_sem]) rfl ⟨rfl, rfl⟩

theorem counted_any (A : Option Addr) (n c : Nat) (s r : Int) (bs : List Nat) (B : Nat) (w : World) (hr : Rd w B A n (bv bs)) (hc : n ≤ c) :
    Calls Try.prog 31 #[diskV A n c s r] w (CountedIs A (cnt bs s r).bs.length c (cnt bs s r).syn (cnt bs s r).room w) :=
  counted_len A n c s r bs w (by have := hr.1; rwa [bv_length] at this) hc

/-- A disk that is answered, its bytes in memory of the call's own. -/
def DiskIs (D : Dk) (w : World) (e : Ending) (w' : World) : Prop :=
  ∃ A c, e = .returned (diskV A D.bs.length c D.syn D.room) ∧ w'.ownsRow w.heap.size 5 1 (.slice A D.bs.length c) D.bs.length (bv D.bs) ∧ Below w.heap.size w w'

abbrev zeroB : Obj := .cells #[.slice none 0 0, .int .i64 0, .int .i64 0] 24

set_option maxHeartbeats 800000 in
theorem own_any (A : Option Addr) (n c : Nat) (s r : Int) (bs : List Nat) (B : Nat) (w : World) (hr : Rd w B A n (bv bs)) (hB : B ≤ w.heap.size) (hc : n ≤ c) :
    Calls Try.prog 14 #[diskV A n c s r] w (DiskIs (cnt bs s r) w) := by
  have hl : bs.length = n := by have := hr.1; rwa [bv_length] at this
  obtain ⟨D, hD⟩ : ∃ D, cnt bs s r = D := ⟨_, rfl⟩
  have hDb : D.bs = bs.take D.bs.length ∧ D.bs.length ≤ n ∧ D.bs.length ≤ 65536 := by
    rw [← hD]
    have h1 := clampN_le r 65536
    simp only [cnt, List.length_take]
    refine ⟨?_, by omega, by omega⟩
    rw [List.take_eq_take_iff]; omega
  have hC := Lib.hid (fun (W : World) (hW : Below w.heap.size w W) => counted_any A n c s r bs B W (hr.below (hW.mono hB)) hc)
  rw [hD] at hC ⊢
  have hrd : Rd w B A D.bs.length (bv D.bs) := by
    have := hr.take hDb.2.1
    rw [bv, ← List.map_take, ← hDb.1] at this
    exact this
  have hb0 : Below w.heap.size w ((w.alloc (diskB A n c s r)).alloc zeroB) := ((Below.refl _ w).alloc (Nat.le_refl _) _).alloc (by simp) _
  obtain ⟨W4, hW4⟩ : ∃ W4, (((w.alloc (diskB A D.bs.length c D.syn D.room)).alloc zeroB).alloc (diskB A D.bs.length c D.syn D.room)).alloc (diskB A D.bs.length c D.syn D.room) = W4 := ⟨_, rfl⟩
  have hx4 : Whole W4 w.heap.size 24 #[.slice A D.bs.length c, .int .i64 D.syn, .int .i64 D.room] := by
    rw [← hW4]; exact (((Whole.new w _ _).alloc _).alloc _).alloc _
  have hy4 : Whole W4 (w.heap.size + 1) 24 #[.slice none 0 0, .int .i64 0, .int .i64 0] := by
    rw [← hW4]; have := ((Whole.new (w.alloc (diskB A D.bs.length c D.syn D.room)) 24 #[.slice none 0 0, .int .i64 0, .int .i64 0]).alloc (diskB A D.bs.length c D.syn D.room)).alloc (diskB A D.bs.length c D.syn D.room); simpa using this
  have hb4 : Below w.heap.size w W4 := by
    rw [← hW4]; exact ((((Below.refl _ w).alloc (Nat.le_refl _) _).alloc (by simp) _).alloc (by simp; omega) _).alloc (by simp; omega) _
  have hs4 : W4.heap.size = w.heap.size + 4 := by rw [← hW4]; simp
  obtain ⟨v5, W5, e5, o5, g5⟩ := run_app W4 W4.heap.size (.slice none 0 0) 0 [] (World.ownsRow_nil _ _ _ _) B A D.bs.length c D.bs (hrd.below (hb4.mono hB)) (by omega) (Nat.le_refl _)
  rw [Nat.zero_add, List.nil_append] at o5
  obtain ⟨A5, c5, rfl⟩ := own_form o5
  have hx5 := hx4.grown g5 (by simp [Value.ownBlock])
  have hy5 := hy4.grown g5 (by simp [Value.ownBlock])
  have hb5 : Below w.heap.size w W5 := hb4.trans ((Below.refl _ _).grown g5 (by omega) (fun k e => by simp [Value.ownBlock] at e))
  have x0 := hx5.cell 0
  have x1 := hx5.cell 1
  have x2 := hx5.cell 2
  have y0 := hy5.cell 0
  have y1 := hy5.cell 1
  have y2 := hy5.cell 2
  have fx0 := hx5.frozen 0
  have fy0 := hy5.frozen 0
  have fy1 := hy5.frozen 1
  have fy2 := hy5.frozen 2
  simp only [List.getElem?_toArray, List.getElem?_cons_zero, List.getElem?_cons_succ] at x0 x1 x2 y0 y1 y2
  have E5 := Lib.hid e5
  have O5 := Lib.hid o5
  have HX5 := Lib.hid hx5
  have HY5 := Lib.hid hy5
  have HB5 := Lib.hid hb5
  have HB0 := Lib.hid hb0
  have HS4 := Lib.hid hs4
  have HW4 := Lib.hid hW4
  have hlen := hDb.2.2
  clear hr hDb hl hD hb0 hrd hW4 hx4 hy4 hb4 hs4 e5 o5 g5 hx5 hy5 hb5
  go_enter Try.func14, Try.ntmps14
  go_wp2_with fail
  refine (hC.out _ HB0.out).mono ?_
  rintro e w1 ⟨rfl, rfl⟩
  go_wp2_with (at_builtin; rw [HW4.out]; refine wpList_app (by rfl) _ _ _ rfl _ _ _ _ rfl rfl E5.out ?_; clear E5)
  have hz := ((HY5.out.far (p := ⟨w.heap.size, 0, none⟩) (by simp) (.slice A5 D.bs.length c5)).set 0 (.slice A5 D.bs.length c5)).set 1 (.int .i64 D.syn) |>.set 2 (.int .i64 D.room)
  have q0 := hz.cell 0
  have q1 := hz.cell 1
  have q2 := hz.cell 2
  simp at q0 q1 q2
  refine bodyPost_ret (v := diskV A5 D.bs.length c5 D.syn D.room) (by simp [results, Try.results14, go_sem, q0, q1, q2]) rfl ⟨A5, c5, rfl, ?_, ?_⟩
  · have hs := HS4.out
    exact own_weaker (own_set (own_set (own_set (own_set O5.out (by omega) _) (by omega) _) (by omega) _) (by omega) _) (by omega)
  · exact (((HB5.out.setCell (p := ⟨w.heap.size, 0, none⟩) (Nat.le_refl _) _).setCell (p := ⟨w.heap.size + 1, 0, none⟩) (by simp) _).setCell (p := ⟨w.heap.size + 1, 1, none⟩) (by simp) _).setCell (p := ⟨w.heap.size + 1, 2, none⟩) (by simp) _

end Go.Proofs.Ytekffkoggnbgeaa
