/-
  Texts that the walk of a statement over brains leans on, joined (BrFind). Conditions: those that each theorem names.
-/
import Derived.Test.YtdaimejlcfhfiaaGreatDoorKQ
import Derived.Test.YtdaimejlcfhfiaaGreatDoorK4
import Derived.Test.YtdaimejlcfhfiaaGreatDoorK6
set_option maxRecDepth 100000

namespace Go.Proofs.YtdaimejlcfhfiaaGreatDoor
open Go.RowKit Go.Shelf

theorem findB_place (p : Br) (id : Int) : placeF (fun n => n == id) (p.kps.map Kp.id) = findB p id := by
  have e : (fun x : Kp => x.id == id) = fun x => decide (x.id = id) := by funext x; by_cases h : x.id = id <;> simp [h]
  unfold placeF findB
  rw [List.findIdx?_map]
  show (match p.kps.findIdx? (fun x => x.id == id) with | some i => (i : Int) | none => -1) = _
  rw [e]
  cases p.kps.findIdx? (fun x => decide (x.id = id)) <;> rfl
theorem tokenB_place (p : Br) (t : Int) : placeF (fun n => n == t) (p.its.map It.tok) = tokenB p t := by
  have e : (fun x : It => x.tok == t) = fun x => decide (x.tok = t) := by funext x; by_cases h : x.tok = t <;> simp [h]
  unfold placeF tokenB
  rw [List.findIdx?_map]
  show (match p.its.findIdx? (fun x => x.tok == t) with | some i => (i : Int) | none => -1) = _
  rw [e]
  cases p.its.findIdx? (fun x => decide (x.tok = t)) <;> rfl

theorem find1_any (n id : Int) (cb : Nat) (w : World) (hc : w.cell? ⟨cb, 0, none⟩ = some (.int .i64 id)) : Calls Tryz.prog 40 #[.int .i64 n, .pointer (some ⟨cb, 0, none⟩)] w (BoolPost (n == id) w) := by
  go_enter Tryz.func40, Tryz.ntmps40
  go_wp2_with fail
  go_ret
  exact ⟨rfl, Below.refl _ _⟩
theorem token1_any (n id : Int) (cb : Nat) (w : World) (hc : w.cell? ⟨cb, 0, none⟩ = some (.int .i64 id)) : Calls Tryz.prog 42 #[.int .i64 n, .pointer (some ⟨cb, 0, none⟩)] w (BoolPost (n == id) w) := by
  go_enter Tryz.func42, Tryz.ntmps42
  go_wp2_with fail
  go_ret
  exact ⟨rfl, Below.refl _ _⟩

/-- The iterator over the ids of a brain's Kept, in a world in which its post holds. -/
theorem kpSeq {A : Option Addr} {n c : Nat} {l : List Kp} {w : World} {b1 b2 : Nat} (hn : n ≤ 1000) (h1 : b1 < w.heap.size) (h2 : b2 < w.heap.size) (h3 : w.cell? ⟨b1, 0, none⟩ = some (.slice A n c)) (h4 : w.cell? ⟨b2, 0, none⟩ = some (.func (.func 63) #[] #[])) (hr : RdK w w.heap.size A n l) :
    SeqI 113 b1 b2 (l.map Kp.id) w :=
  ⟨h1, h2, fun m W hm hb => kpEach_stops m b1 b2 w.heap.size A n c l (by omega) hm h1 h2 W hb.size ((hb.cell (p := ⟨b1, 0, none⟩) h1).trans h3) ((hb.cell (p := ⟨b2, 0, none⟩) h2).trans h4) (hr.below hb)⟩
theorem itSeq {A : Option Addr} {n c : Nat} {l : List It} {w : World} {b1 b2 : Nat} (hn : n ≤ 1000) (h1 : b1 < w.heap.size) (h2 : b2 < w.heap.size) (h3 : w.cell? ⟨b1, 0, none⟩ = some (.slice A n c)) (h4 : w.cell? ⟨b2, 0, none⟩ = some (.func (.func 65) #[] #[])) (hr : RdI w w.heap.size A n l) :
    SeqI 114 b1 b2 (l.map It.tok) w :=
  ⟨h1, h2, fun m W hm hb => itEach_stops m b1 b2 w.heap.size A n c l (by omega) hm h1 h2 W hb.size ((hb.cell (p := ⟨b1, 0, none⟩) h1).trans h3) ((hb.cell (p := ⟨b2, 0, none⟩) h2).trans h4) (hr.below hb)⟩

set_option maxHeartbeats 1000000 in
theorem bfind_any (p : Br) (a : Ad) (id : Int) (Z : Nat) (w : World) (hr : RdB_ w Z p a) (hZ : Z ≤ w.heap.size) (hn : p.kps.length ≤ 1000) :
    Calls Tryz.prog 17 #[brV p a, .int .i64 id] w (IntPost (findB p id) w) := by
  have hmf : ∀ (fn : Fn) (first cap : Array Value) (w : World), (Instr.makeFunc fn first cap).run Tryz.prog w = .ok (.func fn first cap) w := fun _ _ _ _ => rfl
  obtain ⟨hb, w0, w1⟩ := two_new w 30 3 (brC p a) #[.int .i64 id]
  obtain ⟨V, hV⟩ : ∃ V, (w.alloc (.cells (brC p a) 30)).alloc (.cells #[.int .i64 id] 3) = V := ⟨_, rfl⟩
  rw [hV] at hb w0 w1
  have HR := Lib.hid ((hr.more hZ).up hb)
  have HB := Lib.hid hb
  have X0 := Lib.hid w0
  have X1 := Lib.hid (w1.cell 0)
  have L1 := Lib.hid w1.lt
  clear hb w0 w1 hr hZ
  go_enter Tryz.func17, Tryz.ntmps17
  go_wp2_with (refine wpList_load_row (by rfl) 30 _ rfl w.heap.size (by rfl) 30 _ (0, 0) _ X0.out Tryz.underlying30 rfl (by kernel_rfl) ?_)
  refine (ids_any p a V).mono ?_
  rintro e w2 ⟨b1, b2, rfl, h1, h2, h3, h4, hb2⟩
  have HS := Lib.hid (kpSeq (l := p.kps) hn h1 h2 h3 h4 ((HR.out.kps.below hb2).more hb2.size))
  have HB2 := Lib.hid (HB.out.trans (hb2.mono HB.out.size))
  have Hb2 := Lib.hid hb2
  clear h1 h2 h3 h4 hb2
  go_wp2_with fail
  refine (place_any 113 b1 b2 40 (w.heap.size + 1) (p.kps.map Kp.id) (fun n => n == id) w2 (enters_of Tryz.func113 (by kernel_rfl) rfl) (enters_of Tryz.func40 (by kernel_rfl) rfl) HS.out (by rw [List.length_map]; omega)
    (fun n W hW => find1_any n id _ W (((hW.mono Hb2.out.size).cell (p := ⟨w.heap.size + 1, 0, none⟩) L1.out).trans ((Hb2.out.cell (p := ⟨w.heap.size + 1, 0, none⟩) L1.out).trans X1.out)))).mono ?_
  rintro e w3 ⟨rfl, hb3⟩
  have HB3 := Lib.hid (HB2.out.trans (hb3.mono HB2.out.size))
  clear hb3
  rw [findB_place]
  go_wp2_with fail
  go_ret
  exact ⟨rfl, HB3.out⟩
set_option maxHeartbeats 1000000 in
theorem btoken_any (p : Br) (a : Ad) (id : Int) (Z : Nat) (w : World) (hr : RdB_ w Z p a) (hZ : Z ≤ w.heap.size) (hn : p.its.length ≤ 1000) :
    Calls Tryz.prog 19 #[brV p a, .int .i64 id] w (IntPost (tokenB p id) w) := by
  have hmf : ∀ (fn : Fn) (first cap : Array Value) (w : World), (Instr.makeFunc fn first cap).run Tryz.prog w = .ok (.func fn first cap) w := fun _ _ _ _ => rfl
  obtain ⟨hb, w0, w1⟩ := two_new w 30 3 (brC p a) #[.int .i64 id]
  obtain ⟨V, hV⟩ : ∃ V, (w.alloc (.cells (brC p a) 30)).alloc (.cells #[.int .i64 id] 3) = V := ⟨_, rfl⟩
  rw [hV] at hb w0 w1
  have HR := Lib.hid ((hr.more hZ).up hb)
  have HB := Lib.hid hb
  have X0 := Lib.hid w0
  have X1 := Lib.hid (w1.cell 0)
  have L1 := Lib.hid w1.lt
  clear hb w0 w1 hr hZ
  go_enter Tryz.func19, Tryz.ntmps19
  go_wp2_with (refine wpList_load_row (by rfl) 30 _ rfl w.heap.size (by rfl) 30 _ (0, 0) _ X0.out Tryz.underlying30 rfl (by kernel_rfl) ?_)
  refine (tokens_any p a V).mono ?_
  rintro e w2 ⟨b1, b2, rfl, h1, h2, h3, h4, hb2⟩
  have HS := Lib.hid (itSeq (l := p.its) hn h1 h2 h3 h4 ((HR.out.its.below hb2).more hb2.size))
  have HB2 := Lib.hid (HB.out.trans (hb2.mono HB.out.size))
  have Hb2 := Lib.hid hb2
  clear h1 h2 h3 h4 hb2
  go_wp2_with fail
  refine (place_any 114 b1 b2 42 (w.heap.size + 1) (p.its.map It.tok) (fun n => n == id) w2 (enters_of Tryz.func114 (by kernel_rfl) rfl) (enters_of Tryz.func42 (by kernel_rfl) rfl) HS.out (by rw [List.length_map]; omega)
    (fun n W hW => token1_any n id _ W (((hW.mono Hb2.out.size).cell (p := ⟨w.heap.size + 1, 0, none⟩) L1.out).trans ((Hb2.out.cell (p := ⟨w.heap.size + 1, 0, none⟩) L1.out).trans X1.out)))).mono ?_
  rintro e w3 ⟨rfl, hb3⟩
  have HB3 := Lib.hid (HB2.out.trans (hb3.mono HB2.out.size))
  clear hb3
  rw [tokenB_place]
  go_wp2_with fail
  go_ret
  exact ⟨rfl, HB3.out⟩

end Go.Proofs.YtdaimejlcfhfiaaGreatDoor
