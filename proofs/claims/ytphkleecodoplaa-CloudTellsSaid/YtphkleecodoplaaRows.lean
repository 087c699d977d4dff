/-
  No cell of these rows narrows 'for every input' (looked for: loops, veiled, ifaces, maps, wideKeys, modest, calm, conditions, laid).
  DERIVED. THE GIVEN ROWS OF THIS SEAT. 5 by the template 'for every input the law returns true; each argument reads behind the call as it read before'; 0 by the template 'total and deterministic' (their statements: YtphkleecodoplaaTotals.lean).
  GIVEN WITH THE SEED: the statements are not yours to turn. If you find one false, say at which input.
  Laid BY PROGRAM, IN A SANDBOX (cutbox-rows.mjs): the forced cells as the released guide's own fill.sh prints them over the translation d351c4158ebc8a75… (all of the seat's roots in one cut). By AI agents, Wed Nov 11 2026. No macro, syntax, notation, axiom, sorry.
-/
import Derived.Test.YtphkleecodoplaaChecked
import GoSem.Claim
import GoSem.ClaimJoined
import GoSem.ClaimMapViews
import Derived.JoinedTies
import Derived.KernelRfl
namespace Go.Proofs.Ytphkleecodoplaa
/- THE CELL 'sum', in the pinned program and in every row, IS THE sha256 OF THE DUMP (.gsa) THAT YtphkleecodoplaaProg.lean LOADS. Nothing in Lean hashes anything: it is a label: what it is worth is what the hold of that sum in a sandbox is worth. -/
noncomputable def Try.pinned : Pinned := { name := "ytphkleecodoplaa", sum := "d351c4158ebc8a75c42ef5975c408b4fdc427e7a3bf8f8a15f516d2ad88f0782", checked := Try.checked }
namespace Rows
def none {H : Type} : Left H := { results := [], args := [] }

/-- 'herdlaw08.CloudTells': WHATEVER THE INPUT: true; the input reads as it did. -/
def cloudTellsSpec : ChangeSpec := { name := "cloudTells", fn := fun _ => fun
  | [d1, d2, d3, d4, d5] => { results := [.lit (.bool true)], args := [d1, d2, d3, d4, d5] }
  | _ => none }
def cloudTellsRow : OpenClaim := { program := "ytphkleecodoplaa", sum := "d351c4158ebc8a75c42ef5975c408b4fdc427e7a3bf8f8a15f516d2ad88f0782", func := "herd/herdlaw08.CloudTells", spec := "cloudTells", unfollowed := true, recurses := true, apart := false }
def CloudTellsSaid : Prop := cloudTellsRow.holds Try.pinned (OpenSpec.ofChange cloudTellsSpec)

/-- ITS FALSE NEIGHBOUR: 'it returns false'. Refute it at one input. -/
def cloudTellsWrong : ChangeSpec := { name := "cloudTells", fn := fun _ => fun
  | [d1, d2, d3, d4, d5] => { results := [.lit (.bool false)], args := [d1, d2, d3, d4, d5] }
  | _ => none }
def CloudTellsWrongFalsely : Prop := cloudTellsRow.holds Try.pinned (OpenSpec.ofChange cloudTellsWrong)

/-- 'herdlaw08.CloudFloor': WHATEVER THE INPUT: true; the input reads as it did. -/
def cloudFloorSpec : ChangeSpec := { name := "cloudFloor", fn := fun _ => fun
  | [d1, d2] => { results := [.lit (.bool true)], args := [d1, d2] }
  | _ => none }
def cloudFloorRow : OpenClaim := { program := "ytphkleecodoplaa", sum := "d351c4158ebc8a75c42ef5975c408b4fdc427e7a3bf8f8a15f516d2ad88f0782", func := "herd/herdlaw08.CloudFloor", spec := "cloudFloor", unfollowed := true, recurses := true, apart := false }
def CloudFloorSaid : Prop := cloudFloorRow.holds Try.pinned (OpenSpec.ofChange cloudFloorSpec)

/-- ITS FALSE NEIGHBOUR: 'it returns false'. Refute it at one input. -/
def cloudFloorWrong : ChangeSpec := { name := "cloudFloor", fn := fun _ => fun
  | [d1, d2] => { results := [.lit (.bool false)], args := [d1, d2] }
  | _ => none }
def CloudFloorWrongFalsely : Prop := cloudFloorRow.holds Try.pinned (OpenSpec.ofChange cloudFloorWrong)

/-- 'herdlaw08.CloudTokens': WHATEVER THE INPUT: true; the input reads as it did. -/
def cloudTokensSpec : ChangeSpec := { name := "cloudTokens", fn := fun _ => fun
  | [d1, d2, d3] => { results := [.lit (.bool true)], args := [d1, d2, d3] }
  | _ => none }
def cloudTokensRow : OpenClaim := { program := "ytphkleecodoplaa", sum := "d351c4158ebc8a75c42ef5975c408b4fdc427e7a3bf8f8a15f516d2ad88f0782", func := "herd/herdlaw08.CloudTokens", spec := "cloudTokens", unfollowed := true, recurses := true, apart := false }
def CloudTokensSaid : Prop := cloudTokensRow.holds Try.pinned (OpenSpec.ofChange cloudTokensSpec)

/-- ITS FALSE NEIGHBOUR: 'it returns false'. Refute it at one input. -/
def cloudTokensWrong : ChangeSpec := { name := "cloudTokens", fn := fun _ => fun
  | [d1, d2, d3] => { results := [.lit (.bool false)], args := [d1, d2, d3] }
  | _ => none }
def CloudTokensWrongFalsely : Prop := cloudTokensRow.holds Try.pinned (OpenSpec.ofChange cloudTokensWrong)

/-- 'herdlaw08.CloudTwice': WHATEVER THE INPUT: true; the input reads as it did. -/
def cloudTwiceSpec : ChangeSpec := { name := "cloudTwice", fn := fun _ => fun
  | [d1, d2, d3] => { results := [.lit (.bool true)], args := [d1, d2, d3] }
  | _ => none }
def cloudTwiceRow : OpenClaim := { program := "ytphkleecodoplaa", sum := "d351c4158ebc8a75c42ef5975c408b4fdc427e7a3bf8f8a15f516d2ad88f0782", func := "herd/herdlaw08.CloudTwice", spec := "cloudTwice", unfollowed := true, recurses := true, apart := false }
def CloudTwiceSaid : Prop := cloudTwiceRow.holds Try.pinned (OpenSpec.ofChange cloudTwiceSpec)

/-- ITS FALSE NEIGHBOUR: 'it returns false'. Refute it at one input. -/
def cloudTwiceWrong : ChangeSpec := { name := "cloudTwice", fn := fun _ => fun
  | [d1, d2, d3] => { results := [.lit (.bool false)], args := [d1, d2, d3] }
  | _ => none }
def CloudTwiceWrongFalsely : Prop := cloudTwiceRow.holds Try.pinned (OpenSpec.ofChange cloudTwiceWrong)

/-- 'herdlaw08.CloudApart': WHATEVER THE INPUT: true; the input reads as it did. -/
def cloudApartSpec : ChangeSpec := { name := "cloudApart", fn := fun _ => fun
  | [d1, d2] => { results := [.lit (.bool true)], args := [d1, d2] }
  | _ => none }
def cloudApartRow : OpenClaim := { program := "ytphkleecodoplaa", sum := "d351c4158ebc8a75c42ef5975c408b4fdc427e7a3bf8f8a15f516d2ad88f0782", func := "herd/herdlaw08.CloudApart", spec := "cloudApart", unfollowed := true, recurses := true, apart := false }
def CloudApartSaid : Prop := cloudApartRow.holds Try.pinned (OpenSpec.ofChange cloudApartSpec)

/-- ITS FALSE NEIGHBOUR: 'it returns false'. Refute it at one input. -/
def cloudApartWrong : ChangeSpec := { name := "cloudApart", fn := fun _ => fun
  | [d1, d2] => { results := [.lit (.bool false)], args := [d1, d2] }
  | _ => none }
def CloudApartWrongFalsely : Prop := cloudApartRow.holds Try.pinned (OpenSpec.ofChange cloudApartWrong)

/- THE SECOND FORM. 'bulk': how many values and letters a reading holds, each counted each time it is reached (what is shared counts as often as it is met; a slice's spare places count too). A statement '..UptoSaid' is the law's where the arguments, and the package variables that the reading takes, are together of bulk at most 1048576: NARROWER than '..Said'. Prove '..Said' where nothing that the law and all that it calls make is longer than what came in: it says more and counts as full. Else prove '..UptoSaid'. A law counts once. -/
mutual
def uptoBulk {H : Type} : DataW H → Nat
  | .lit (.string bytes) => bytes.length + 1
  | .lit _ => 1
  | .nil => 1
  | .ptr d => uptoBulk d + 1
  | .slice elems spare => uptoBulkAll elems + uptoBulkAll spare + 1
  | .agg parts => uptoBulkAll parts + 1
  | .iface _ d => uptoBulk d + 1
  | .map entries => uptoBulkEntries entries + 1
  | .held _ => 1
def uptoBulkAll {H : Type} : List (DataW H) → Nat
  | [] => 0
  | d :: r => uptoBulk d + uptoBulkAll r
def uptoBulkEntries {H : Type} : List (Lit × DataW H) → Nat
  | [] => 0
  | x :: r => uptoBulkEntry x + uptoBulkEntries r
def uptoBulkEntry {H : Type} : Lit × DataW H → Nat
  | (.string bytes, d) => bytes.length + uptoBulk d + 1
  | (_, d) => uptoBulk d + 1
 end
def uptoSmall : (H : Type) → List (DataW H) → Bool := fun _ ds => decide (uptoBulkAll ds ≤ 1048576)
def OpenSpec.upto (s : _root_.Go.ChangeSpec) : _root_.Go.OpenSpec := { _root_.Go.OpenSpec.ofChange s with cond := some uptoSmall }

/-- 'herdlaw08.CloudTells', WHERE WHAT IT READS IS OF BULK AT MOST 1048576: true; the input reads as it did. -/
def cloudTellsUptoRow : OpenClaim := { program := "ytphkleecodoplaa", sum := "d351c4158ebc8a75c42ef5975c408b4fdc427e7a3bf8f8a15f516d2ad88f0782", func := "herd/herdlaw08.CloudTells", spec := "cloudTells", unfollowed := true, recurses := true, apart := false, narrowed := true }
def CloudTellsUptoSaid : Prop := cloudTellsUptoRow.holds Try.pinned (OpenSpec.upto cloudTellsSpec)

/-- 'herdlaw08.CloudFloor', WHERE WHAT IT READS IS OF BULK AT MOST 1048576: true; the input reads as it did. -/
def cloudFloorUptoRow : OpenClaim := { program := "ytphkleecodoplaa", sum := "d351c4158ebc8a75c42ef5975c408b4fdc427e7a3bf8f8a15f516d2ad88f0782", func := "herd/herdlaw08.CloudFloor", spec := "cloudFloor", unfollowed := true, recurses := true, apart := false, narrowed := true }
def CloudFloorUptoSaid : Prop := cloudFloorUptoRow.holds Try.pinned (OpenSpec.upto cloudFloorSpec)

/-- 'herdlaw08.CloudTokens', WHERE WHAT IT READS IS OF BULK AT MOST 1048576: true; the input reads as it did. -/
def cloudTokensUptoRow : OpenClaim := { program := "ytphkleecodoplaa", sum := "d351c4158ebc8a75c42ef5975c408b4fdc427e7a3bf8f8a15f516d2ad88f0782", func := "herd/herdlaw08.CloudTokens", spec := "cloudTokens", unfollowed := true, recurses := true, apart := false, narrowed := true }
def CloudTokensUptoSaid : Prop := cloudTokensUptoRow.holds Try.pinned (OpenSpec.upto cloudTokensSpec)

/-- 'herdlaw08.CloudTwice', WHERE WHAT IT READS IS OF BULK AT MOST 1048576: true; the input reads as it did. -/
def cloudTwiceUptoRow : OpenClaim := { program := "ytphkleecodoplaa", sum := "d351c4158ebc8a75c42ef5975c408b4fdc427e7a3bf8f8a15f516d2ad88f0782", func := "herd/herdlaw08.CloudTwice", spec := "cloudTwice", unfollowed := true, recurses := true, apart := false, narrowed := true }
def CloudTwiceUptoSaid : Prop := cloudTwiceUptoRow.holds Try.pinned (OpenSpec.upto cloudTwiceSpec)

/-- 'herdlaw08.CloudApart', WHERE WHAT IT READS IS OF BULK AT MOST 1048576: true; the input reads as it did. -/
def cloudApartUptoRow : OpenClaim := { program := "ytphkleecodoplaa", sum := "d351c4158ebc8a75c42ef5975c408b4fdc427e7a3bf8f8a15f516d2ad88f0782", func := "herd/herdlaw08.CloudApart", spec := "cloudApart", unfollowed := true, recurses := true, apart := false, narrowed := true }
def CloudApartUptoSaid : Prop := cloudApartUptoRow.holds Try.pinned (OpenSpec.upto cloudApartSpec)

end Rows
end Go.Proofs.Ytphkleecodoplaa
