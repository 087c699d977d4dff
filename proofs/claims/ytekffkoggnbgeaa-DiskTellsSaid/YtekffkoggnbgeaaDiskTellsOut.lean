/-
  The openings of the statement 'DiskTells': too great a disk, or too many bytes. Conditions: none but those named.
-/
import Derived.Test.YtekffkoggnbgeaaRefSameAll
import Derived.Test.YtekffkoggnbgeaaDiskLawRoom
namespace Go.Proofs.Ytekffkoggnbgeaa
open Go.RowKit Go.Shelf

set_option maxRecDepth 100000 in
set_option maxHeartbeats 800000 in
theorem diskTells_out (A : Option Addr) (n c : Nat) (s r : Int) (A' : Option Addr) (n' c' : Nat) (s' r' : Int) (Ab : Option Addr) (nb cb : Nat) (nv : Int) (w : World) (h : 400 < n ∨ (n ≤ 400 ∧ 400 < n') ∨ (n ≤ 400 ∧ n' ≤ 400 ∧ 300 < nb)) :
    Calls Try.prog 3 #[diskV A n c s r, diskV A' n' c' s' r', .slice Ab nb cb, .int .i64 nv] w (TruePost w) := by
  have HB1 := Lib.hid ((((Below.refl w.heap.size w).alloc (Nat.le_refl _) (diskB A n c s r)).alloc (by simp) (diskB A' n' c' s' r')).alloc (by simp; omega) (diskB A n c s r))
  have HB2 := Lib.hid (HB1.out.alloc (by simp; omega) (diskB A' n' c' s' r'))
  rcases h with h | ⟨h, h2⟩ | ⟨h, h2, h3⟩
  · have HG := Lib.hid (fun W => greatD_any A n c s r W (b := true) (by simpa using h))
    clear h
    go_enter Try.func3, Try.ntmps3
    go_wp2_with fail
    refine (HG.out _).mono ?_
    rintro e w1 ⟨rfl, rfl⟩
    go_wp2_with fail
    refine (wakesD_any _).mono ?_
    rintro e w4 ⟨rfl, b4⟩
    have B4 := Lib.hid (HB1.out.trans (b4.mono HB1.out.size))
    clear b4
    go_wp2_with fail
    go_ret
    exact ⟨rfl, B4.out⟩
  · have HG := Lib.hid (fun W => greatD_any A n c s r W (b := false) (by simpa using h))
    have HG2 := Lib.hid (fun W => greatD_any A' n' c' s' r' W (b := true) (by simpa using h2))
    clear h h2
    go_enter Try.func3, Try.ntmps3
    go_wp2_with fail
    refine (HG.out _).mono ?_
    rintro e w1 ⟨rfl, rfl⟩
    go_wp2_with fail
    refine (HG2.out _).mono ?_
    rintro e w2 ⟨rfl, rfl⟩
    go_wp2_with fail
    refine (wakesD_any _).mono ?_
    rintro e w4 ⟨rfl, b4⟩
    have B4 := Lib.hid (HB2.out.trans (b4.mono HB2.out.size))
    clear b4
    go_wp2_with fail
    go_ret
    exact ⟨rfl, B4.out⟩
  · have HG := Lib.hid (fun W => greatD_any A n c s r W (b := false) (by simpa using h))
    have HG2 := Lib.hid (fun W => greatD_any A' n' c' s' r' W (b := false) (by simpa using h2))
    have h3' : (300 : Int) < (nb : Int) := by omega
    clear h h2 h3
    go_enter Try.func3, Try.ntmps3
    go_wp2_with fail
    refine (HG.out _).mono ?_
    rintro e w1 ⟨rfl, rfl⟩
    go_wp2_with fail
    refine (HG2.out _).mono ?_
    rintro e w2 ⟨rfl, rfl⟩
    go_wp2_with fail
    refine (wakesD_any _).mono ?_
    rintro e w4 ⟨rfl, b4⟩
    have B4 := Lib.hid (HB2.out.trans (b4.mono HB2.out.size))
    clear b4
    go_wp2_with fail
    go_ret
    exact ⟨rfl, B4.out⟩

end Go.Proofs.Ytekffkoggnbgeaa
