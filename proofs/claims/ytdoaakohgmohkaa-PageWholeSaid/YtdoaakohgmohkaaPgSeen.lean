/-
  The walk of 'seen' of package page: what is shown of a box. Conditions: those that each theorem names.
-/
import Derived.Test.YtdoaakohgmohkaaPgRow
import Derived.Test.YtdoaakohgmohkaaCdH
namespace Go.Proofs.Ytdoaakohgmohkaa
open Go.RowKit Go.Shelf

/-- What is handed over, as the iterator hands it over. -/
def snEnc (s : Sn) : Array Value := #[.agg s.vs.toArray]
def SnOk (S : List Sn) (pre : List Sn) (x : Sn) (_ : World) : Prop := pre ++ [x] <+: S

def SeenPost (x : Bx) (w : World) (e : Ending) (w' : World) : Prop := e = .returned (.agg (seenB x).vs.toArray) ∧ Below w.heap.size w w'

set_option maxRecDepth 100000 in
set_option maxHeartbeats 1000000 in
theorem seen_any (x : Bx) (w : World) : Calls Try.prog 26 #[.agg #[.int .i64 x.id, .int .i64 x.tok, .int .i64 x.ver, .int .i64 x.zone, .bool x.tag, .bool x.on, .bool x.gone, .bool x.well, .int .u8 x.lb, .int .i64 x.unt, .int .i64 x.fen]] w (SeenPost x w) := by
  obtain ⟨E, hE⟩ : ∃ E, (x.lb == 1) = E := ⟨_, rfl⟩
  have HV : Hid ((seenB x).vs.toArray = #[.int .i64 x.id, .int .i64 x.tok, .int .i64 x.ver, .int .i64 x.zone, .bool x.on, .bool x.well, .bool E]) := Lib.hid (by rw [← hE]; rfl)
  unfold SeenPost
  rw [HV.out]
  go_enter Try.func26, Try.ntmps26
  go_wp2
  refine bodyPost_ret (v := .agg #[.int .i64 x.id, .int .i64 x.tok, .int .i64 x.ver, .int .i64 x.zone, .bool x.on, .bool x.well, .bool E]) (by simp [results, Try.results26, go_sem]) rfl ⟨rfl, ?_⟩
  exact ((Below.refl _ w).alloc (Nat.le_refl _) _).alloc (by simp) _

end Go.Proofs.Ytdoaakohgmohkaa
