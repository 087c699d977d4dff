/-
  Texts that the walk of a statement over brains leans on, joined (CtOrder, CtSet). Conditions: those that each theorem names.
-/
import Derived.Test.YtplejbgecihnpaaDoorK5
import Derived.Test.YtplejbgecihnpaaDoorK9
import Derived.Test.YtplejbgecihnpaaDoorK11
import Derived.Test.YtplejbgecihnpaaDoorK16

namespace Go.Proofs.YtplejbgecihnpaaDoor
open Go.RowKit Go.Shelf

/-- The other way round. -/
def revB (p : Br) : Br := { p with its := p.its.reverse, kps := p.kps.reverse }
theorem old_rev (p : Br) : oldB (revB p) = oldB p := by
  show p.its.reverse.countP (oldI p) + p.kps.reverse.countP (oldK p) = _
  rw [List.countP_reverse, List.countP_reverse]
  rfl
theorem count_rev (p : Br) : countB (revB p) = countB p := by
  have h1 := old_rev p
  have h2 : wantB (revB p) = wantB p := by unfold wantB; rw [h1]; rfl
  show (⟨verB p, oldB (revB p), itSt p.its.reverse + kpSt p.kps.reverse, itWarm p.its.reverse + kpWarm p.kps.reverse, p.its.reverse.length + p.kps.reverse.length, kpServe p.kps.reverse, wantB (revB p), floorOf p.cf, boundOf p.cf⟩ : Cn) = _
  rw [h1, h2]
  simp only [itSt, kpSt, itWarm, kpWarm, kpServe, List.countP_reverse, List.length_reverse]
  rfl
theorem count_put (q : Kp → Bool) (l : List Kp) (x : Kp) : (putK l x).countP q = l.countP q + (if q x = true then 1 else 0) := by
  have h : l.countP q = (l.takeWhile (fun y => decide (y.id ≤ x.id))).countP q + (l.dropWhile (fun y => decide (y.id ≤ x.id))).countP q := by
    rw [← List.countP_append, List.takeWhile_append_dropWhile]
  rw [h]
  unfold putK
  rw [List.countP_append, List.countP_cons]
  omega
theorem count_drop (q : It → Bool) (t : Int) : ∀ (l : List It) (x : It), l.find? (fun x => decide (x.tok = t)) = some x → (dropI t l).countP q + (if q x = true then 1 else 0) = l.countP q
  | [], x, h => by simp at h
  | y :: l, x, h => by
    unfold dropI
    by_cases hy : y.tok = t
    · rw [List.find?_cons_of_pos (by simp [hy])] at h
      cases h
      rw [List.eraseP_cons_of_pos (by simp [hy]), List.countP_cons]
    · rw [List.find?_cons_of_neg (by simp [hy])] at h
      have ih := count_drop q t l x h
      unfold dropI at ih
      rw [List.eraseP_cons_of_neg (by simp [hy]), List.countP_cons, List.countP_cons]
      omega
/-- A launch that is made an instance. -/
theorem count_made_ {b : Br} {t id now : Int} (h : (madeB b t id now).its.length < b.its.length) : (countB (madeB b t id now)).all = (countB b).all ∧ (countB (madeB b t id now)).st = (countB b).st ∧ (countB (madeB b t id now)).warm = (countB b).warm ∧ (countB (madeB b t id now)).old = (countB b).old ∧ (countB (madeB b t id now)).want = (countB b).want := by
  unfold madeB at h ⊢
  cases hm : meantB b t with
  | none => rw [hm] at h; exact absurd h (Nat.lt_irrefl _)
  | some x =>
    rw [hm] at h
    dsimp only at h ⊢
    split at h
    · rename_i hc
      rw [if_pos hc]
      have hf : b.its.find? (fun x => decide (x.tok = t)) = some x := hm
      obtain ⟨n, hn⟩ : ∃ n : Kp, (⟨id, x.tok, x.ver, x.zone, if x.warm = true then 9 else 1, now, false, false⟩ : Kp) = n := ⟨_, rfl⟩
      rw [hn]
      obtain ⟨r, hr⟩ : ∃ r : Rf, (if b.rf.st = 1 then { b.rf with fails := 0 } else b.rf) = r := ⟨_, rfl⟩
      rw [hr]
      have r1 : r.st = b.rf.st ∧ r.to_ = b.rf.to_ ∧ r.paused = b.rf.paused := by rw [← hr]; split <;> exact ⟨rfl, rfl, rfl⟩
      obtain ⟨m, hm2⟩ : ∃ m : Br, { b with its := dropI t b.its, kps := putK b.kps n, rf := r } = m := ⟨_, rfl⟩
      have hv : verB m = verB b := by rw [← hm2]; simp only [verB, r1.1, r1.2.1]
      have eI : oldI m = oldI b := by funext y; simp only [oldI, hv]
      have eK : oldK m = oldK b := by funext y; simp only [oldK, hv]; rw [← hm2]
      have hp : n.phase = if x.warm = true then 9 else 1 := by rw [← hn]
      have hnv : n.ver = x.ver := by rw [← hn]
      have hng : n.guard = false := by rw [← hn]
      have k1 := count_drop (oldI b) t b.its x hf
      have k2 := count_put (oldK b) b.kps n
      have k3 := count_drop (fun x => !x.warm) t b.its x hf
      have k4 := count_put (fun x => standsI x.phase) b.kps n
      have k5 := count_drop It.warm t b.its x hf
      have k6 := count_put (fun x => decide (x.phase = 9)) b.kps n
      have k7 := count_drop (fun _ => true) t b.its x hf
      have k8 := count_put (fun _ => true) b.kps n
      have q1 : (if oldK b n = true then 1 else 0) = (if oldI b x = true then 1 else 0) := by
        have : oldK b n = oldI b x := by
          unfold oldK oldI
          rw [hp, hnv, hng]
          cases x.warm <;> simp [goesI]
        rw [this]
      have q2 : (if standsI n.phase = true then 1 else 0) = (if (!x.warm) = true then 1 else 0) := by
        rw [hp]; cases x.warm <;> rfl
      have q3 : (if decide (n.phase = 9) = true then 1 else 0) = (if x.warm = true then 1 else 0) := by
        rw [hp]; cases x.warm <;> rfl
      have ho : oldB m = oldB b := by
        show m.its.countP (oldI m) + m.kps.countP (oldK m) = b.its.countP (oldI b) + b.kps.countP (oldK b)
        rw [eI, eK, ← hm2]
        show (dropI t b.its).countP (oldI b) + (putK b.kps n).countP (oldK b) = _
        omega
      rw [hm2]
      refine ⟨?_, ?_, ?_, ho, ?_⟩
      · rw [← hm2]
        show (dropI t b.its).length + (putK b.kps n).length = b.its.length + b.kps.length
        simp only [List.countP_true] at k7 k8
        omega
      · rw [← hm2]
        show (dropI t b.its).countP (fun x => !x.warm) + (putK b.kps n).countP (fun x => standsI x.phase) = b.its.countP (fun x => !x.warm) + b.kps.countP (fun x => standsI x.phase)
        omega
      · rw [← hm2]
        show (dropI t b.its).countP It.warm + (putK b.kps n).countP (fun x => decide (x.phase = 9)) = b.its.countP It.warm + b.kps.countP (fun x => decide (x.phase = 9))
        omega
      · show wantB m = wantB b
        unfold wantB
        rw [ho, ← hm2]
        simp only [r1.1, r1.2.2]
    · exact absurd h (Nat.lt_irrefl _)
theorem count_made {b : Br} {t id : Int} (h : (applyB b 4 [t, id, 5]).its.length < b.its.length) : (countB (applyB b 4 [t, id, 5])).all = (countB b).all ∧ (countB (applyB b 4 [t, id, 5])).st = (countB b).st ∧ (countB (applyB b 4 [t, id, 5])).warm = (countB b).warm ∧ (countB (applyB b 4 [t, id, 5])).old = (countB b).old ∧ (countB (applyB b 4 [t, id, 5])).want = (countB b).want := by
  have e : applyB b 4 [t, id, 5] = if numsB [t, id, 5] = true then madeB b t id 5 else b := by
    unfold applyB
    have e2 : manyB 4 = (([t, id, 5] : List Int).length : Int) := by
      show manyB 4 = 3
      decide
    by_cases hn : numsB [t, id, 5] = true
    · rw [if_pos hn, if_pos hn, if_neg (by decide), if_pos e2]
      rfl
    · rw [if_neg hn, if_neg hn]
  rw [e] at h ⊢
  split at h
  · rename_i hn
    rw [if_pos hn]
    exact count_made_ h
  · exact absurd h (Nat.lt_irrefl _)

end Go.Proofs.YtplejbgecihnpaaDoor

namespace Go.Proofs.YtplejbgecihnpaaDoor
open Go.RowKit Go.Shelf

section
variable {α : Type} {f : α → List Value} {size : Nat}
theorem seg_set (hf : ∀ x, (f x).length = size) {cs : List Value} {l : List α} {x : α} {i : Nat} (hi : i < l.length) (ht : cs.take (l.length * size) = l.flatMap f) :
    (cs.take (i * size) ++ f x ++ cs.drop (i * size + (f x).length)).take (l.length * size) = (l.set i x).flatMap f := by
  have hsz : l.length * size ≤ cs.length := by
    have h1 := flatF_length hf l
    rw [← ht, List.length_take] at h1
    omega
  have hi1 : i * size ≤ l.length * size := Nat.mul_le_mul_right _ (by omega)
  have hi2 : (i + 1) * size ≤ l.length * size := Nat.mul_le_mul_right _ (by omega)
  have hs : (i + 1) * size = i * size + size := by rw [Nat.succ_mul]
  have e1 : cs.take (i * size) = (l.take i).flatMap f := by
    have h1 : (cs.take (l.length * size)).take (i * size) = cs.take (i * size) := by rw [List.take_take, Nat.min_eq_left hi1]
    rw [← h1, ht]
    have h2 : l.flatMap f = (l.take i).flatMap f ++ (l.drop i).flatMap f := by rw [← List.flatMap_append, List.take_append_drop]
    rw [h2, List.take_left' (by rw [flatF_length hf, List.length_take]; congr 1; omega)]
  have e2 : cs.drop (i * size + size) = (l.drop (i + 1)).flatMap f ++ cs.drop (l.length * size) := by
    have h1 : cs = l.flatMap f ++ cs.drop (l.length * size) := by rw [← ht, List.take_append_drop]
    have h2 : l.flatMap f = (l.take (i + 1)).flatMap f ++ (l.drop (i + 1)).flatMap f := by rw [← List.flatMap_append, List.take_append_drop]
    have h3 : ((l.take (i + 1)).flatMap f).length = i * size + size := by rw [flatF_length hf, List.length_take, Nat.min_eq_left (by omega), hs]
    generalize cs.drop (l.length * size) = ds at h1 ⊢
    rw [h1, h2, List.append_assoc, List.drop_left' h3]
  have e3 : l.set i x = l.take i ++ [x] ++ l.drop (i + 1) := by
    rw [List.set_eq_take_append_cons_drop, if_pos hi]
    simp
  rw [hf, e1, e2, e3]
  have e4 : ((l.take i).flatMap f ++ f x ++ (l.drop (i + 1)).flatMap f).length = l.length * size := by
    rw [List.length_append, List.length_append, flatF_length hf, flatF_length hf, hf, List.length_take, List.length_drop, Nat.min_eq_left (by omega), ← Nat.succ_mul, ← Nat.add_mul]
    congr 1
    omega
  rw [← List.append_assoc, List.take_left' e4, List.flatMap_append, List.flatMap_append]
  simp
/-- One of a row of one's own is set. -/
theorem row_set (hf : ∀ x, (f x).length = size) {w : World} {base n c : Nat} {e : TypeId} {A : Option Addr} {l : List α} (h : w.ownsRow base e size (.slice A n c) n (l.flatMap f)) (hl : l.length = n) {j : Nat} (hj : j < n) (x : α) :
    ∃ g cs, A = some ⟨g, 0, none⟩ ∧ base ≤ g ∧ Whole w g e (List.toArray cs) ∧ j * size + (f x).length ≤ cs.length ∧ (w.setRow g (cs.take (j * size) ++ f x ++ cs.drop (j * size + (f x).length)).toArray).ownsRow base e size (.slice A n c) n ((l.set j x).flatMap f) := by
  obtain ⟨g, cs, rfl, hb, hr, hn, ht⟩ := RowIn.of_own h (by omega)
  have hfit : j * size + (f x).length ≤ cs.length := by
    rw [hf, hr.len, ← Nat.succ_mul]
    exact Nat.mul_le_mul_right _ (by omega)
  refine ⟨g, cs, rfl, hb, hr.hg, hfit, (hr.put hfit).own hb hn (by rw [flatF_length hf, List.length_set, hl]) ?_⟩
  rw [← hl]
  exact seg_set hf (by omega) (by rw [hl]; exact ht)
/-- The first j of the row are the other way round. -/
def halfway (l : List α) (j : Nat) : List α := l.reverse.take j ++ l.drop j
theorem half_zero (l : List α) : halfway l 0 = l := by simp [halfway]
theorem half_all (l : List α) : halfway l l.length = l.reverse := by
  unfold halfway
  rw [List.drop_length, List.append_nil, List.take_of_length_le (by simp)]
theorem half_len (l : List α) {j : Nat} (hj : j ≤ l.length) : (halfway l j).length = l.length := by
  simp only [halfway, List.length_append, List.length_take, List.length_reverse, List.length_drop]
  omega
theorem half_next (l : List α) {j : Nat} (hj : j < l.length) {x : α} (hx : l[l.length - 1 - j]? = some x) : (halfway l j).set j x = halfway l (j + 1) := by
  have h1 : l.reverse[j]? = some x := by
    rw [List.getElem?_reverse hj]
    exact hx
  have h2 : (l.reverse.take j).length = j := by rw [List.length_take, List.length_reverse]; omega
  have h3 : l.drop j = l[j] :: l.drop (j + 1) := List.drop_eq_getElem_cons hj
  unfold halfway
  rw [List.set_append_right _ _ (by omega), h2, Nat.sub_self, h3, List.set_cons_zero]
  have hj' : j < l.reverse.length := by rw [List.length_reverse]; exact hj
  rw [List.take_succ_eq_append_getElem hj', (List.getElem?_eq_some_iff.1 h1).2]
  simp
end

end Go.Proofs.YtplejbgecihnpaaDoor
