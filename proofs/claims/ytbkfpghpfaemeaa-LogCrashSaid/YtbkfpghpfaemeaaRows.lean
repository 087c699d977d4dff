/-
  No cell of these rows narrows 'for every input' (looked for: loops, veiled, ifaces, maps, wideKeys, modest, calm, conditions, laid).
  DERIVED. THE GIVEN ROWS OF THIS SEAT. 5 by the template 'for every input the law returns true; each argument reads behind the call as it read before'; 0 by the template 'total and deterministic' (their statements: YtbkfpghpfaemeaaTotals.lean).
  GIVEN WITH THE SEED: the statements are not yours to turn. If you find one false, say at which input.
  Laid BY PROGRAM, IN A SANDBOX (cutbox-rows.mjs): the forced cells as the released guide's own fill.sh prints them over the translation 73ae84e224fdbe29… (all of the seat's roots in one cut). By AI agents, Wed Nov 11 2026. No macro, syntax, notation, axiom, sorry.
-/
import Derived.Test.YtbkfpghpfaemeaaChecked
import GoSem.Claim
import GoSem.ClaimJoined
import GoSem.ClaimMapViews
import Derived.JoinedTies
import Derived.KernelRfl
namespace Go.Proofs.Ytbkfpghpfaemeaa
/- THE CELL 'sum', in the pinned program and in every row, IS THE sha256 OF THE DUMP (.gsa) THAT YtbkfpghpfaemeaaProg.lean LOADS. Nothing in Lean hashes anything: it is a label: what it is worth is what the hold of that sum in a sandbox is worth. -/
noncomputable def Try.pinned : Pinned := { name := "ytbkfpghpfaemeaa", sum := "73ae84e224fdbe29bf20de9e684f4a7d6acd3bc538a26e2b1e1365202464bbb0", checked := Try.checked }
namespace Rows
def none {H : Type} : Left H := { results := [], args := [] }

/-- 'herdlaw05.LogTells': WHATEVER THE INPUT: true; the input reads as it did. -/
def logTellsSpec : ChangeSpec := { name := "logTells", fn := fun _ => fun
  | [d1, d2, d3] => { results := [.lit (.bool true)], args := [d1, d2, d3] }
  | _ => none }
def logTellsRow : OpenClaim := { program := "ytbkfpghpfaemeaa", sum := "73ae84e224fdbe29bf20de9e684f4a7d6acd3bc538a26e2b1e1365202464bbb0", func := "herd/herdlaw05.LogTells", spec := "logTells", unfollowed := true, recurses := true, apart := false }
def LogTellsSaid : Prop := logTellsRow.holds Try.pinned (OpenSpec.ofChange logTellsSpec)

/-- ITS FALSE NEIGHBOUR: 'it returns false'. Refute it at one input. -/
def logTellsWrong : ChangeSpec := { name := "logTells", fn := fun _ => fun
  | [d1, d2, d3] => { results := [.lit (.bool false)], args := [d1, d2, d3] }
  | _ => none }
def LogTellsWrongFalsely : Prop := logTellsRow.holds Try.pinned (OpenSpec.ofChange logTellsWrong)

/-- 'herdlaw05.LogCrash': WHATEVER THE INPUT: true; the input reads as it did. -/
def logCrashSpec : ChangeSpec := { name := "logCrash", fn := fun _ => fun
  | [d1, d2, d3, d4] => { results := [.lit (.bool true)], args := [d1, d2, d3, d4] }
  | _ => none }
def logCrashRow : OpenClaim := { program := "ytbkfpghpfaemeaa", sum := "73ae84e224fdbe29bf20de9e684f4a7d6acd3bc538a26e2b1e1365202464bbb0", func := "herd/herdlaw05.LogCrash", spec := "logCrash", unfollowed := true, recurses := true, apart := false }
def LogCrashSaid : Prop := logCrashRow.holds Try.pinned (OpenSpec.ofChange logCrashSpec)

/-- ITS FALSE NEIGHBOUR: 'it returns false'. Refute it at one input. -/
def logCrashWrong : ChangeSpec := { name := "logCrash", fn := fun _ => fun
  | [d1, d2, d3, d4] => { results := [.lit (.bool false)], args := [d1, d2, d3, d4] }
  | _ => none }
def LogCrashWrongFalsely : Prop := logCrashRow.holds Try.pinned (OpenSpec.ofChange logCrashWrong)

/-- 'herdlaw05.LogOpen': WHATEVER THE INPUT: true; the input reads as it did. -/
def logOpenSpec : ChangeSpec := { name := "logOpen", fn := fun _ => fun
  | [d] => { results := [.lit (.bool true)], args := [d] }
  | _ => none }
def logOpenRow : OpenClaim := { program := "ytbkfpghpfaemeaa", sum := "73ae84e224fdbe29bf20de9e684f4a7d6acd3bc538a26e2b1e1365202464bbb0", func := "herd/herdlaw05.LogOpen", spec := "logOpen", unfollowed := true, recurses := true, apart := false }
def LogOpenSaid : Prop := logOpenRow.holds Try.pinned (OpenSpec.ofChange logOpenSpec)

/-- ITS FALSE NEIGHBOUR: 'it returns false'. Refute it at one input. -/
def logOpenWrong : ChangeSpec := { name := "logOpen", fn := fun _ => fun
  | [d] => { results := [.lit (.bool false)], args := [d] }
  | _ => none }
def LogOpenWrongFalsely : Prop := logOpenRow.holds Try.pinned (OpenSpec.ofChange logOpenWrong)

/-- 'herdlaw05.LogParts': WHATEVER THE INPUT: true; the input reads as it did. -/
def logPartsSpec : ChangeSpec := { name := "logParts", fn := fun _ => fun
  | [d1, d2, d3] => { results := [.lit (.bool true)], args := [d1, d2, d3] }
  | _ => none }
def logPartsRow : OpenClaim := { program := "ytbkfpghpfaemeaa", sum := "73ae84e224fdbe29bf20de9e684f4a7d6acd3bc538a26e2b1e1365202464bbb0", func := "herd/herdlaw05.LogParts", spec := "logParts", unfollowed := true, recurses := true, apart := false }
def LogPartsSaid : Prop := logPartsRow.holds Try.pinned (OpenSpec.ofChange logPartsSpec)

/-- ITS FALSE NEIGHBOUR: 'it returns false'. Refute it at one input. -/
def logPartsWrong : ChangeSpec := { name := "logParts", fn := fun _ => fun
  | [d1, d2, d3] => { results := [.lit (.bool false)], args := [d1, d2, d3] }
  | _ => none }
def LogPartsWrongFalsely : Prop := logPartsRow.holds Try.pinned (OpenSpec.ofChange logPartsWrong)

/-- 'herdlaw05.LogSafe': WHATEVER THE INPUT: true; the input reads as it did. -/
def logSafeSpec : ChangeSpec := { name := "logSafe", fn := fun _ => fun
  | [d] => { results := [.lit (.bool true)], args := [d] }
  | _ => none }
def logSafeRow : OpenClaim := { program := "ytbkfpghpfaemeaa", sum := "73ae84e224fdbe29bf20de9e684f4a7d6acd3bc538a26e2b1e1365202464bbb0", func := "herd/herdlaw05.LogSafe", spec := "logSafe", unfollowed := true, recurses := true, apart := false }
def LogSafeSaid : Prop := logSafeRow.holds Try.pinned (OpenSpec.ofChange logSafeSpec)

/-- ITS FALSE NEIGHBOUR: 'it returns false'. Refute it at one input. -/
def logSafeWrong : ChangeSpec := { name := "logSafe", fn := fun _ => fun
  | [d] => { results := [.lit (.bool false)], args := [d] }
  | _ => none }
def LogSafeWrongFalsely : Prop := logSafeRow.holds Try.pinned (OpenSpec.ofChange logSafeWrong)

/- THE SECOND FORM. 'bulk': how many values and letters a reading holds, each counted each time it is reached (what is shared counts as often as it is met; a slice's spare places count too). A statement '..UptoSaid' is the law's where the arguments, and the package variables that the reading takes, are together of bulk at most 1048576: NARROWER than '..Said'. Prove '..Said' where nothing that the law and all that it calls make is longer than what came in: it says more and counts as full. Else prove '..UptoSaid'. A law counts once. -/
mutual
def uptoBulk {H : Type} : DataW H → Nat
  | .lit (.string bytes) => bytes.length + 1
  | .lit _ => 1
  | .nil => 1
  | .ptr d => uptoBulk d + 1
  | .slice elems spare => uptoBulkAll elems + uptoBulkAll spare + 1
  | .agg parts => uptoBulkAll parts + 1
  | .iface _ d => uptoBulk d + 1
  | .map entries => uptoBulkEntries entries + 1
  | .held _ => 1
def uptoBulkAll {H : Type} : List (DataW H) → Nat
  | [] => 0
  | d :: r => uptoBulk d + uptoBulkAll r
def uptoBulkEntries {H : Type} : List (Lit × DataW H) → Nat
  | [] => 0
  | x :: r => uptoBulkEntry x + uptoBulkEntries r
def uptoBulkEntry {H : Type} : Lit × DataW H → Nat
  | (.string bytes, d) => bytes.length + uptoBulk d + 1
  | (_, d) => uptoBulk d + 1
 end
def uptoSmall : (H : Type) → List (DataW H) → Bool := fun _ ds => decide (uptoBulkAll ds ≤ 1048576)
def OpenSpec.upto (s : _root_.Go.ChangeSpec) : _root_.Go.OpenSpec := { _root_.Go.OpenSpec.ofChange s with cond := some uptoSmall }

/-- 'herdlaw05.LogTells', WHERE WHAT IT READS IS OF BULK AT MOST 1048576: true; the input reads as it did. -/
def logTellsUptoRow : OpenClaim := { program := "ytbkfpghpfaemeaa", sum := "73ae84e224fdbe29bf20de9e684f4a7d6acd3bc538a26e2b1e1365202464bbb0", func := "herd/herdlaw05.LogTells", spec := "logTells", unfollowed := true, recurses := true, apart := false, narrowed := true }
def LogTellsUptoSaid : Prop := logTellsUptoRow.holds Try.pinned (OpenSpec.upto logTellsSpec)

/-- 'herdlaw05.LogCrash', WHERE WHAT IT READS IS OF BULK AT MOST 1048576: true; the input reads as it did. -/
def logCrashUptoRow : OpenClaim := { program := "ytbkfpghpfaemeaa", sum := "73ae84e224fdbe29bf20de9e684f4a7d6acd3bc538a26e2b1e1365202464bbb0", func := "herd/herdlaw05.LogCrash", spec := "logCrash", unfollowed := true, recurses := true, apart := false, narrowed := true }
def LogCrashUptoSaid : Prop := logCrashUptoRow.holds Try.pinned (OpenSpec.upto logCrashSpec)

/-- 'herdlaw05.LogOpen', WHERE WHAT IT READS IS OF BULK AT MOST 1048576: true; the input reads as it did. -/
def logOpenUptoRow : OpenClaim := { program := "ytbkfpghpfaemeaa", sum := "73ae84e224fdbe29bf20de9e684f4a7d6acd3bc538a26e2b1e1365202464bbb0", func := "herd/herdlaw05.LogOpen", spec := "logOpen", unfollowed := true, recurses := true, apart := false, narrowed := true }
def LogOpenUptoSaid : Prop := logOpenUptoRow.holds Try.pinned (OpenSpec.upto logOpenSpec)

/-- 'herdlaw05.LogParts', WHERE WHAT IT READS IS OF BULK AT MOST 1048576: true; the input reads as it did. -/
def logPartsUptoRow : OpenClaim := { program := "ytbkfpghpfaemeaa", sum := "73ae84e224fdbe29bf20de9e684f4a7d6acd3bc538a26e2b1e1365202464bbb0", func := "herd/herdlaw05.LogParts", spec := "logParts", unfollowed := true, recurses := true, apart := false, narrowed := true }
def LogPartsUptoSaid : Prop := logPartsUptoRow.holds Try.pinned (OpenSpec.upto logPartsSpec)

/-- 'herdlaw05.LogSafe', WHERE WHAT IT READS IS OF BULK AT MOST 1048576: true; the input reads as it did. -/
def logSafeUptoRow : OpenClaim := { program := "ytbkfpghpfaemeaa", sum := "73ae84e224fdbe29bf20de9e684f4a7d6acd3bc538a26e2b1e1365202464bbb0", func := "herd/herdlaw05.LogSafe", spec := "logSafe", unfollowed := true, recurses := true, apart := false, narrowed := true }
def LogSafeUptoSaid : Prop := logSafeUptoRow.holds Try.pinned (OpenSpec.upto logSafeSpec)

end Rows
end Go.Proofs.Ytbkfpghpfaemeaa
