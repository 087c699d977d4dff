/-
  No cell of these rows narrows 'for every input' (looked for: loops, veiled, ifaces, maps, wideKeys, modest, calm, conditions, laid).
  DERIVED. THE GIVEN ROWS OF THIS SEAT. 5 by the template 'for every input the law returns true; each argument reads behind the call as it read before'; 0 by the template 'total and deterministic' (their statements: YtoiegffnmjlkdaaTotals.lean).
  GIVEN WITH THE SEED: the statements are not yours to turn. If you find one false, say at which input.
  Laid BY PROGRAM, IN A SANDBOX (cutbox-rows.mjs): the forced cells as the released guide's own fill.sh prints them over the translation d69ffa3f9b657745… (all of the seat's roots in one cut). By AI agents, Wed Nov 11 2026. No macro, syntax, notation, axiom, sorry.
-/
import Derived.Test.YtoiegffnmjlkdaaChecked
import GoSem.Claim
import GoSem.ClaimJoined
import GoSem.ClaimMapViews
import Derived.JoinedTies
import Derived.KernelRfl
namespace Go.Proofs.Ytoiegffnmjlkdaa
/- THE CELL 'sum', in the pinned program and in every row, IS THE sha256 OF THE DUMP (.gsa) THAT YtoiegffnmjlkdaaProg.lean LOADS. Nothing in Lean hashes anything: it is a label: what it is worth is what the hold of that sum in a sandbox is worth. -/
noncomputable def Try.pinned : Pinned := { name := "ytoiegffnmjlkdaa", sum := "d69ffa3f9b657745a0ecceed7b66302659b34b68f3e38eadfe99bae7024fc6c9", checked := Try.checked }
namespace Rows
def none {H : Type} : Left H := { results := [], args := [] }

/-- 'herdlaw10.EventTells': WHATEVER THE INPUT: true; the input reads as it did. -/
def eventTellsSpec : ChangeSpec := { name := "eventTells", fn := fun _ => fun
  | [d1, d2, d3] => { results := [.lit (.bool true)], args := [d1, d2, d3] }
  | _ => none }
def eventTellsRow : OpenClaim := { program := "ytoiegffnmjlkdaa", sum := "d69ffa3f9b657745a0ecceed7b66302659b34b68f3e38eadfe99bae7024fc6c9", func := "herd/herdlaw10.EventTells", spec := "eventTells", unfollowed := true, recurses := true, apart := false }
def EventTellsSaid : Prop := eventTellsRow.holds Try.pinned (OpenSpec.ofChange eventTellsSpec)

/-- ITS FALSE NEIGHBOUR: 'it returns false'. Refute it at one input. -/
def eventTellsWrong : ChangeSpec := { name := "eventTells", fn := fun _ => fun
  | [d1, d2, d3] => { results := [.lit (.bool false)], args := [d1, d2, d3] }
  | _ => none }
def EventTellsWrongFalsely : Prop := eventTellsRow.holds Try.pinned (OpenSpec.ofChange eventTellsWrong)

/-- 'herdlaw10.EventRight': WHATEVER THE INPUT: true; the input reads as it did. -/
def eventRightSpec : ChangeSpec := { name := "eventRight", fn := fun _ => fun
  | [d1, d2] => { results := [.lit (.bool true)], args := [d1, d2] }
  | _ => none }
def eventRightRow : OpenClaim := { program := "ytoiegffnmjlkdaa", sum := "d69ffa3f9b657745a0ecceed7b66302659b34b68f3e38eadfe99bae7024fc6c9", func := "herd/herdlaw10.EventRight", spec := "eventRight", unfollowed := true, recurses := true, apart := false }
def EventRightSaid : Prop := eventRightRow.holds Try.pinned (OpenSpec.ofChange eventRightSpec)

/-- ITS FALSE NEIGHBOUR: 'it returns false'. Refute it at one input. -/
def eventRightWrong : ChangeSpec := { name := "eventRight", fn := fun _ => fun
  | [d1, d2] => { results := [.lit (.bool false)], args := [d1, d2] }
  | _ => none }
def EventRightWrongFalsely : Prop := eventRightRow.holds Try.pinned (OpenSpec.ofChange eventRightWrong)

/-- 'herdlaw10.EventTicks': WHATEVER THE INPUT: true; the input reads as it did. -/
def eventTicksSpec : ChangeSpec := { name := "eventTicks", fn := fun _ => fun
  | [d1, d2] => { results := [.lit (.bool true)], args := [d1, d2] }
  | _ => none }
def eventTicksRow : OpenClaim := { program := "ytoiegffnmjlkdaa", sum := "d69ffa3f9b657745a0ecceed7b66302659b34b68f3e38eadfe99bae7024fc6c9", func := "herd/herdlaw10.EventTicks", spec := "eventTicks", unfollowed := true, recurses := true, apart := false }
def EventTicksSaid : Prop := eventTicksRow.holds Try.pinned (OpenSpec.ofChange eventTicksSpec)

/-- ITS FALSE NEIGHBOUR: 'it returns false'. Refute it at one input. -/
def eventTicksWrong : ChangeSpec := { name := "eventTicks", fn := fun _ => fun
  | [d1, d2] => { results := [.lit (.bool false)], args := [d1, d2] }
  | _ => none }
def EventTicksWrongFalsely : Prop := eventTicksRow.holds Try.pinned (OpenSpec.ofChange eventTicksWrong)

/-- 'herdlaw10.EventTwice': WHATEVER THE INPUT: true; the input reads as it did. -/
def eventTwiceSpec : ChangeSpec := { name := "eventTwice", fn := fun _ => fun
  | [d1, d2, d3, d4] => { results := [.lit (.bool true)], args := [d1, d2, d3, d4] }
  | _ => none }
def eventTwiceRow : OpenClaim := { program := "ytoiegffnmjlkdaa", sum := "d69ffa3f9b657745a0ecceed7b66302659b34b68f3e38eadfe99bae7024fc6c9", func := "herd/herdlaw10.EventTwice", spec := "eventTwice", unfollowed := true, recurses := true, apart := false }
def EventTwiceSaid : Prop := eventTwiceRow.holds Try.pinned (OpenSpec.ofChange eventTwiceSpec)

/-- ITS FALSE NEIGHBOUR: 'it returns false'. Refute it at one input. -/
def eventTwiceWrong : ChangeSpec := { name := "eventTwice", fn := fun _ => fun
  | [d1, d2, d3, d4] => { results := [.lit (.bool false)], args := [d1, d2, d3, d4] }
  | _ => none }
def EventTwiceWrongFalsely : Prop := eventTwiceRow.holds Try.pinned (OpenSpec.ofChange eventTwiceWrong)

/-- 'herdlaw10.EventEach': WHATEVER THE INPUT: true; the input reads as it did. -/
def eventEachSpec : ChangeSpec := { name := "eventEach", fn := fun _ => fun
  | [d1, d2] => { results := [.lit (.bool true)], args := [d1, d2] }
  | _ => none }
def eventEachRow : OpenClaim := { program := "ytoiegffnmjlkdaa", sum := "d69ffa3f9b657745a0ecceed7b66302659b34b68f3e38eadfe99bae7024fc6c9", func := "herd/herdlaw10.EventEach", spec := "eventEach", unfollowed := true, recurses := true, apart := false }
def EventEachSaid : Prop := eventEachRow.holds Try.pinned (OpenSpec.ofChange eventEachSpec)

/-- ITS FALSE NEIGHBOUR: 'it returns false'. Refute it at one input. -/
def eventEachWrong : ChangeSpec := { name := "eventEach", fn := fun _ => fun
  | [d1, d2] => { results := [.lit (.bool false)], args := [d1, d2] }
  | _ => none }
def EventEachWrongFalsely : Prop := eventEachRow.holds Try.pinned (OpenSpec.ofChange eventEachWrong)

/- THE SECOND FORM. 'bulk': how many values and letters a reading holds, each counted each time it is reached (what is shared counts as often as it is met; a slice's spare places count too). A statement '..UptoSaid' is the law's where the arguments, and the package variables that the reading takes, are together of bulk at most 1048576: NARROWER than '..Said'. Prove '..Said' where nothing that the law and all that it calls make is longer than what came in: it says more and counts as full. Else prove '..UptoSaid'. A law counts once. -/
mutual
def uptoBulk {H : Type} : DataW H → Nat
  | .lit (.string bytes) => bytes.length + 1
  | .lit _ => 1
  | .nil => 1
  | .ptr d => uptoBulk d + 1
  | .slice elems spare => uptoBulkAll elems + uptoBulkAll spare + 1
  | .agg parts => uptoBulkAll parts + 1
  | .iface _ d => uptoBulk d + 1
  | .map entries => uptoBulkEntries entries + 1
  | .held _ => 1
def uptoBulkAll {H : Type} : List (DataW H) → Nat
  | [] => 0
  | d :: r => uptoBulk d + uptoBulkAll r
def uptoBulkEntries {H : Type} : List (Lit × DataW H) → Nat
  | [] => 0
  | x :: r => uptoBulkEntry x + uptoBulkEntries r
def uptoBulkEntry {H : Type} : Lit × DataW H → Nat
  | (.string bytes, d) => bytes.length + uptoBulk d + 1
  | (_, d) => uptoBulk d + 1
 end
def uptoSmall : (H : Type) → List (DataW H) → Bool := fun _ ds => decide (uptoBulkAll ds ≤ 1048576)
def OpenSpec.upto (s : _root_.Go.ChangeSpec) : _root_.Go.OpenSpec := { _root_.Go.OpenSpec.ofChange s with cond := some uptoSmall }

/-- 'herdlaw10.EventTells', WHERE WHAT IT READS IS OF BULK AT MOST 1048576: true; the input reads as it did. -/
def eventTellsUptoRow : OpenClaim := { program := "ytoiegffnmjlkdaa", sum := "d69ffa3f9b657745a0ecceed7b66302659b34b68f3e38eadfe99bae7024fc6c9", func := "herd/herdlaw10.EventTells", spec := "eventTells", unfollowed := true, recurses := true, apart := false, narrowed := true }
def EventTellsUptoSaid : Prop := eventTellsUptoRow.holds Try.pinned (OpenSpec.upto eventTellsSpec)

/-- 'herdlaw10.EventRight', WHERE WHAT IT READS IS OF BULK AT MOST 1048576: true; the input reads as it did. -/
def eventRightUptoRow : OpenClaim := { program := "ytoiegffnmjlkdaa", sum := "d69ffa3f9b657745a0ecceed7b66302659b34b68f3e38eadfe99bae7024fc6c9", func := "herd/herdlaw10.EventRight", spec := "eventRight", unfollowed := true, recurses := true, apart := false, narrowed := true }
def EventRightUptoSaid : Prop := eventRightUptoRow.holds Try.pinned (OpenSpec.upto eventRightSpec)

/-- 'herdlaw10.EventTicks', WHERE WHAT IT READS IS OF BULK AT MOST 1048576: true; the input reads as it did. -/
def eventTicksUptoRow : OpenClaim := { program := "ytoiegffnmjlkdaa", sum := "d69ffa3f9b657745a0ecceed7b66302659b34b68f3e38eadfe99bae7024fc6c9", func := "herd/herdlaw10.EventTicks", spec := "eventTicks", unfollowed := true, recurses := true, apart := false, narrowed := true }
def EventTicksUptoSaid : Prop := eventTicksUptoRow.holds Try.pinned (OpenSpec.upto eventTicksSpec)

/-- 'herdlaw10.EventTwice', WHERE WHAT IT READS IS OF BULK AT MOST 1048576: true; the input reads as it did. -/
def eventTwiceUptoRow : OpenClaim := { program := "ytoiegffnmjlkdaa", sum := "d69ffa3f9b657745a0ecceed7b66302659b34b68f3e38eadfe99bae7024fc6c9", func := "herd/herdlaw10.EventTwice", spec := "eventTwice", unfollowed := true, recurses := true, apart := false, narrowed := true }
def EventTwiceUptoSaid : Prop := eventTwiceUptoRow.holds Try.pinned (OpenSpec.upto eventTwiceSpec)

/-- 'herdlaw10.EventEach', WHERE WHAT IT READS IS OF BULK AT MOST 1048576: true; the input reads as it did. -/
def eventEachUptoRow : OpenClaim := { program := "ytoiegffnmjlkdaa", sum := "d69ffa3f9b657745a0ecceed7b66302659b34b68f3e38eadfe99bae7024fc6c9", func := "herd/herdlaw10.EventEach", spec := "eventEach", unfollowed := true, recurses := true, apart := false, narrowed := true }
def EventEachUptoSaid : Prop := eventEachUptoRow.holds Try.pinned (OpenSpec.upto eventEachSpec)

end Rows
end Go.Proofs.Ytoiegffnmjlkdaa
