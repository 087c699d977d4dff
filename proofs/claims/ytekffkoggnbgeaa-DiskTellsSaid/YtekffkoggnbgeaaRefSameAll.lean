/-
  The document's own 'Same' (herdref03): it tells whether two disks count as the same. Conditions: those that the theorem names.
-/
import Derived.Test.YtekffkoggnbgeaaRefSame
namespace Go.Proofs.Ytekffkoggnbgeaa
open Go.RowKit Go.Shelf

set_option maxRecDepth 100000 in
set_option maxHeartbeats 1000000 in
theorem refSame_any (A : Option Addr) (n c : Nat) (s r : Int) (bs : List Nat) (A' : Option Addr) (n' c' : Nat) (s' r' : Int) (bs' : List Nat) (w : World) (hr : Rd w w.heap.size A n (bv bs)) (hc : n ≤ c) (hnm : n ≤ 500000) (hby : ∀ x ∈ bs, x < 256) (hr' : Rd w w.heap.size A' n' (bv bs')) (hc' : n' ≤ c') (hnm' : n' ≤ 500000) (hby' : ∀ x ∈ bs', x < 256)
    {ob : List Nat} {K S R : Nat} (hD : cnt bs s r = ⟨ob, S, R⟩) (hK : ob.length = K) {ob' : List Nat} {K' S' R' : Nat} (hD' : cnt bs' s' r' = ⟨ob', S', R'⟩) (hK' : ob'.length = K') :
    Calls Try.prog 26 #[diskV A n c s r, diskV A' n' c' s' r'] w (fun e w' => e = .returned (.bool (decide ((⟨ob, S, R⟩ : Dk) = ⟨ob', S', R'⟩))) ∧ Below w.heap.size w w') := by
  have hok : (⟨ob, S, R⟩ : Dk).Ok := by have h := cnt_ok s r hby; rwa [hD] at h
  have hok' : (⟨ob', S', R'⟩ : Dk).Ok := by have h := cnt_ok s' r' hby'; rwa [hD'] at h
  have K1 := refOwn_hid A n c s r bs w hr hc hnm hD hK
  have K2 := refOwn_hid A' n' c' s' r' bs' w hr' hc' hnm' hD' hK'
  have X1 := Lib.hid ((Whole.new w 24 #[.slice A n c, .int .i64 s, .int .i64 r]).alloc (diskB A' n' c' s' r'))
  have Y1 := Lib.hid (by have := Whole.new (w.alloc (diskB A n c s r)) 24 #[.slice A' n' c', .int .i64 s', .int .i64 r']; simpa using this : Whole ((w.alloc (diskB A n c s r)).alloc (diskB A' n' c' s' r')) (w.heap.size + 1) 24 #[.slice A' n' c', .int .i64 s', .int .i64 r'])
  have B1 := Lib.hid (((Below.refl w.heap.size w).alloc (Nat.le_refl _) (diskB A n c s r)).alloc (by simp) (diskB A' n' c' s' r'))
  have HE := Lib.hid (strB_inj hok.byte hok'.byte)
  obtain ⟨d, hd⟩ : ∃ d, decide ((⟨ob, S, R⟩ : Dk) = ⟨ob', S', R'⟩) = d := ⟨_, rfl⟩
  have HD := Lib.hid hd
  rw [hd]
  clear hr hc hnm hby hr' hc' hnm' hby' hD hK hD' hK' hok hok' hd
  go_enter Try.func26, Try.ntmps26
  go_upto_region 1 with fail
  refine rs_region rfl (by kernel_rfl) ⟨_, rfl, rfl, rfl, rfl, rfl, by kernel_rfl⟩ ⟨_, rfl, rfl, rfl, rfl, rfl, by kernel_rfl⟩ ⟨_, rfl, rfl, rfl, rfl, rfl, by kernel_rfl⟩ ⟨_, rfl, rfl, rfl, rfl, rfl, by kernel_rfl⟩ ⟨_, rfl, rfl, rfl, rfl, rfl, by kernel_rfl⟩ ⟨_, rfl, rfl, rfl, rfl, rfl, by kernel_rfl⟩ _ ?_ _ w B1.out A n c s r A' n' c' s' r' ob K S R ob' K' S' R' rfl rfl X1.out Y1.out K1.out K2.out ?_
  · intro d hd
    simp only [List.mem_cons, List.not_mem_nil, or_false] at hd
    rcases hd with rfl | rfl | rfl | rfl <;> simp
  intro σ W0 A1 c1 A2 c2 B0 X0 Y0 o1 o2
  simp only [lay, List.foldl_cons, List.foldl_nil, Act.put, List.setIfInBounds_toArray, List.set_cons_zero, List.set_cons_succ]
  have q1 := run_string W0 A1 K c1 ob W0.heap.size (Rd.of_own o1)
  have q2 := run_string W0 A2 K' c2 ob' W0.heap.size (Rd.of_own o2)
  obtain ⟨s1, hs1⟩ : ∃ s, strB ob = s := ⟨_, rfl⟩
  obtain ⟨s2, hs2⟩ : ∃ s, strB ob' = s := ⟨_, rfl⟩
  rw [hs1] at q1 HE
  rw [hs2] at q2 HE
  obtain ⟨x0, x1, x2⟩ := X0.cells3
  obtain ⟨y0, y1, y2⟩ := Y0.cells3
  have HB0 := Lib.hid B0
  have he := HE.out
  have hdd := HD.out
  clear B0 X0 Y0 o1 o2 hs1 hs2 K1 K2 X1 Y1 B1
  by_cases e1 : ob = ob'
  · have g1 : (s1.toList == s2.toList) = true := by rw [he]; simpa using e1
    by_cases g2 : (S : Int) = (S' : Int)
    · by_cases g3 : (R : Int) = (R' : Int)
      · have e2 : S = S' := by omega
        have e3 : R = R' := by omega
        subst e1 e2 e3
        obtain rfl : d = true := by simpa using hdd.symm
        clear HE HD he hdd g2 g3
        go_wp2_with fail
        go_ret
        exact ⟨rfl, HB0.out⟩
      · have e3 : ¬ R = R' := by omega
        have g3' : ((R : Int) == (R' : Int)) = false := by rw [beq_eq_false_iff_ne]; exact g3
        obtain rfl : d = false := by simpa [e3] using hdd.symm
        have e2 : S = S' := by omega
        subst e2
        clear HE HD he hdd g2 e3 e1
        go_wp2_with fail
        go_ret
        exact ⟨rfl, HB0.out⟩
    · have e2 : ¬ S = S' := by omega
      have g2' : ((S : Int) == (S' : Int)) = false := by rw [beq_eq_false_iff_ne]; exact g2
      obtain rfl : d = false := by simpa [e2] using hdd.symm
      clear HE HD he hdd e1 e2
      go_wp2_with fail
      go_ret
      exact ⟨rfl, HB0.out⟩
  · have g1 : (s1.toList == s2.toList) = false := by rw [he]; simpa using e1
    obtain rfl : d = false := by simpa [e1] using hdd.symm
    clear HE HD he hdd e1
    go_wp2_with fail
    go_ret
    exact ⟨rfl, HB0.out⟩

end Go.Proofs.Ytekffkoggnbgeaa
