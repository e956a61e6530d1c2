/-
  No cell of these rows narrows 'for every input' (looked for: loops, veiled, ifaces, maps, wideKeys, modest, calm, conditions, laid).
  DERIVED. THE GIVEN ROWS OF THIS SEAT. 11 by the template 'for every input the law returns true; each argument reads behind the call as it read before'; 0 by the template 'total and deterministic' (their statements: YtgbogdckmfencaaTotals.lean).
  GIVEN WITH THE SEED: the statements are not yours to turn. If you find one false, say at which input.
  Laid BY PROGRAM, IN A SANDBOX (cutbox-rows.mjs): the forced cells as the released guide's own fill.sh prints them over the translation 3707efd2d10c4050… (all of the seat's roots in one cut). By AI agents, Wed Nov 11 2026. No macro, syntax, notation, axiom, sorry.
-/
import Derived.Test.YtgbogdckmfencaaChecked
import GoSem.Claim
import GoSem.ClaimJoined
import GoSem.ClaimMapViews
import Derived.JoinedTies
import Derived.KernelRfl
namespace Go.Proofs.Ytgbogdckmfencaa
/- THE CELL 'sum', in the pinned program and in every row, IS THE sha256 OF THE DUMP (.gsa) THAT YtgbogdckmfencaaProg.lean LOADS. Nothing in Lean hashes anything: it is a label: what it is worth is what the hold of that sum in a sandbox is worth. -/
noncomputable def Try.pinned : Pinned := { name := "ytgbogdckmfencaa", sum := "3707efd2d10c405084d50ebe0ae202b5d3b874ca0e21b1cc0c857e41caaa7ae0", checked := Try.checked }
namespace Rows
def none {H : Type} : Left H := { results := [], args := [] }

/-- 'swarflaw01.BridgeZeros': WHATEVER THE INPUT: true; the input reads as it did. -/
def bridgeZerosSpec : ChangeSpec := { name := "bridgeZeros", fn := fun _ => fun
  | [d1, d2, d3] => { results := [.lit (.bool true)], args := [d1, d2, d3] }
  | _ => none }
def bridgeZerosRow : OpenClaim := { program := "ytgbogdckmfencaa", sum := "3707efd2d10c405084d50ebe0ae202b5d3b874ca0e21b1cc0c857e41caaa7ae0", func := "swarf/swarflaw01.BridgeZeros", spec := "bridgeZeros", unfollowed := true, recurses := true, apart := false }
def BridgeZerosSaid : Prop := bridgeZerosRow.holds Try.pinned (OpenSpec.ofChange bridgeZerosSpec)

/-- ITS FALSE NEIGHBOUR: 'it returns false'. Refute it at one input. -/
def bridgeZerosWrong : ChangeSpec := { name := "bridgeZeros", fn := fun _ => fun
  | [d1, d2, d3] => { results := [.lit (.bool false)], args := [d1, d2, d3] }
  | _ => none }
def BridgeZerosWrongFalsely : Prop := bridgeZerosRow.holds Try.pinned (OpenSpec.ofChange bridgeZerosWrong)

/-- 'swarflaw01.BridgeNets': WHATEVER THE INPUT: true; the input reads as it did. -/
def bridgeNetsSpec : ChangeSpec := { name := "bridgeNets", fn := fun _ => fun
  | [d1, d2, d3, d4] => { results := [.lit (.bool true)], args := [d1, d2, d3, d4] }
  | _ => none }
def bridgeNetsRow : OpenClaim := { program := "ytgbogdckmfencaa", sum := "3707efd2d10c405084d50ebe0ae202b5d3b874ca0e21b1cc0c857e41caaa7ae0", func := "swarf/swarflaw01.BridgeNets", spec := "bridgeNets", unfollowed := true, recurses := true, apart := false }
def BridgeNetsSaid : Prop := bridgeNetsRow.holds Try.pinned (OpenSpec.ofChange bridgeNetsSpec)

/-- ITS FALSE NEIGHBOUR: 'it returns false'. Refute it at one input. -/
def bridgeNetsWrong : ChangeSpec := { name := "bridgeNets", fn := fun _ => fun
  | [d1, d2, d3, d4] => { results := [.lit (.bool false)], args := [d1, d2, d3, d4] }
  | _ => none }
def BridgeNetsWrongFalsely : Prop := bridgeNetsRow.holds Try.pinned (OpenSpec.ofChange bridgeNetsWrong)

/-- 'swarflaw01.BridgeTests': WHATEVER THE INPUT: true; the input reads as it did. -/
def bridgeTestsSpec : ChangeSpec := { name := "bridgeTests", fn := fun _ => fun
  | [d1, d2, d3] => { results := [.lit (.bool true)], args := [d1, d2, d3] }
  | _ => none }
def bridgeTestsRow : OpenClaim := { program := "ytgbogdckmfencaa", sum := "3707efd2d10c405084d50ebe0ae202b5d3b874ca0e21b1cc0c857e41caaa7ae0", func := "swarf/swarflaw01.BridgeTests", spec := "bridgeTests", unfollowed := true, recurses := true, apart := false }
def BridgeTestsSaid : Prop := bridgeTestsRow.holds Try.pinned (OpenSpec.ofChange bridgeTestsSpec)

/-- ITS FALSE NEIGHBOUR: 'it returns false'. Refute it at one input. -/
def bridgeTestsWrong : ChangeSpec := { name := "bridgeTests", fn := fun _ => fun
  | [d1, d2, d3] => { results := [.lit (.bool false)], args := [d1, d2, d3] }
  | _ => none }
def BridgeTestsWrongFalsely : Prop := bridgeTestsRow.holds Try.pinned (OpenSpec.ofChange bridgeTestsWrong)

/-- 'swarflaw01.BridgeTrue': WHATEVER THE INPUT: true; the input reads as it did. -/
def bridgeTrueSpec : ChangeSpec := { name := "bridgeTrue", fn := fun _ => fun
  | [d] => { results := [.lit (.bool true)], args := [d] }
  | _ => none }
def bridgeTrueRow : OpenClaim := { program := "ytgbogdckmfencaa", sum := "3707efd2d10c405084d50ebe0ae202b5d3b874ca0e21b1cc0c857e41caaa7ae0", func := "swarf/swarflaw01.BridgeTrue", spec := "bridgeTrue", unfollowed := true, recurses := true, apart := false }
def BridgeTrueSaid : Prop := bridgeTrueRow.holds Try.pinned (OpenSpec.ofChange bridgeTrueSpec)

/-- ITS FALSE NEIGHBOUR: 'it returns false'. Refute it at one input. -/
def bridgeTrueWrong : ChangeSpec := { name := "bridgeTrue", fn := fun _ => fun
  | [d] => { results := [.lit (.bool false)], args := [d] }
  | _ => none }
def BridgeTrueWrongFalsely : Prop := bridgeTrueRow.holds Try.pinned (OpenSpec.ofChange bridgeTrueWrong)

/-- 'swarflaw01.BridgeEnds': WHATEVER THE INPUT: true; the input reads as it did. -/
def bridgeEndsSpec : ChangeSpec := { name := "bridgeEnds", fn := fun _ => fun
  | [d] => { results := [.lit (.bool true)], args := [d] }
  | _ => none }
def bridgeEndsRow : OpenClaim := { program := "ytgbogdckmfencaa", sum := "3707efd2d10c405084d50ebe0ae202b5d3b874ca0e21b1cc0c857e41caaa7ae0", func := "swarf/swarflaw01.BridgeEnds", spec := "bridgeEnds", unfollowed := true, recurses := true, apart := false }
def BridgeEndsSaid : Prop := bridgeEndsRow.holds Try.pinned (OpenSpec.ofChange bridgeEndsSpec)

/-- ITS FALSE NEIGHBOUR: 'it returns false'. Refute it at one input. -/
def bridgeEndsWrong : ChangeSpec := { name := "bridgeEnds", fn := fun _ => fun
  | [d] => { results := [.lit (.bool false)], args := [d] }
  | _ => none }
def BridgeEndsWrongFalsely : Prop := bridgeEndsRow.holds Try.pinned (OpenSpec.ofChange bridgeEndsWrong)

/-- 'swarflaw01.BridgeFirst': WHATEVER THE INPUT: true; the input reads as it did. -/
def bridgeFirstSpec : ChangeSpec := { name := "bridgeFirst", fn := fun _ => fun
  | [d] => { results := [.lit (.bool true)], args := [d] }
  | _ => none }
def bridgeFirstRow : OpenClaim := { program := "ytgbogdckmfencaa", sum := "3707efd2d10c405084d50ebe0ae202b5d3b874ca0e21b1cc0c857e41caaa7ae0", func := "swarf/swarflaw01.BridgeFirst", spec := "bridgeFirst", unfollowed := true, recurses := true, apart := false }
def BridgeFirstSaid : Prop := bridgeFirstRow.holds Try.pinned (OpenSpec.ofChange bridgeFirstSpec)

/-- ITS FALSE NEIGHBOUR: 'it returns false'. Refute it at one input. -/
def bridgeFirstWrong : ChangeSpec := { name := "bridgeFirst", fn := fun _ => fun
  | [d] => { results := [.lit (.bool false)], args := [d] }
  | _ => none }
def BridgeFirstWrongFalsely : Prop := bridgeFirstRow.holds Try.pinned (OpenSpec.ofChange bridgeFirstWrong)

/-- 'swarflaw01.BridgeMore': WHATEVER THE INPUT: true; the input reads as it did. -/
def bridgeMoreSpec : ChangeSpec := { name := "bridgeMore", fn := fun _ => fun
  | [d] => { results := [.lit (.bool true)], args := [d] }
  | _ => none }
def bridgeMoreRow : OpenClaim := { program := "ytgbogdckmfencaa", sum := "3707efd2d10c405084d50ebe0ae202b5d3b874ca0e21b1cc0c857e41caaa7ae0", func := "swarf/swarflaw01.BridgeMore", spec := "bridgeMore", unfollowed := true, recurses := true, apart := false }
def BridgeMoreSaid : Prop := bridgeMoreRow.holds Try.pinned (OpenSpec.ofChange bridgeMoreSpec)

/-- ITS FALSE NEIGHBOUR: 'it returns false'. Refute it at one input. -/
def bridgeMoreWrong : ChangeSpec := { name := "bridgeMore", fn := fun _ => fun
  | [d] => { results := [.lit (.bool false)], args := [d] }
  | _ => none }
def BridgeMoreWrongFalsely : Prop := bridgeMoreRow.holds Try.pinned (OpenSpec.ofChange bridgeMoreWrong)

/-- 'swarflaw01.BridgeDriver': WHATEVER THE INPUT: true; the input reads as it did. -/
def bridgeDriverSpec : ChangeSpec := { name := "bridgeDriver", fn := fun _ => fun
  | [d] => { results := [.lit (.bool true)], args := [d] }
  | _ => none }
def bridgeDriverRow : OpenClaim := { program := "ytgbogdckmfencaa", sum := "3707efd2d10c405084d50ebe0ae202b5d3b874ca0e21b1cc0c857e41caaa7ae0", func := "swarf/swarflaw01.BridgeDriver", spec := "bridgeDriver", unfollowed := true, recurses := true, apart := false }
def BridgeDriverSaid : Prop := bridgeDriverRow.holds Try.pinned (OpenSpec.ofChange bridgeDriverSpec)

/-- ITS FALSE NEIGHBOUR: 'it returns false'. Refute it at one input. -/
def bridgeDriverWrong : ChangeSpec := { name := "bridgeDriver", fn := fun _ => fun
  | [d] => { results := [.lit (.bool false)], args := [d] }
  | _ => none }
def BridgeDriverWrongFalsely : Prop := bridgeDriverRow.holds Try.pinned (OpenSpec.ofChange bridgeDriverWrong)

/-- 'swarflaw01.BridgeSteps': WHATEVER THE INPUT: true; the input reads as it did. -/
def bridgeStepsSpec : ChangeSpec := { name := "bridgeSteps", fn := fun _ => fun
  | [d] => { results := [.lit (.bool true)], args := [d] }
  | _ => none }
def bridgeStepsRow : OpenClaim := { program := "ytgbogdckmfencaa", sum := "3707efd2d10c405084d50ebe0ae202b5d3b874ca0e21b1cc0c857e41caaa7ae0", func := "swarf/swarflaw01.BridgeSteps", spec := "bridgeSteps", unfollowed := true, recurses := true, apart := false }
def BridgeStepsSaid : Prop := bridgeStepsRow.holds Try.pinned (OpenSpec.ofChange bridgeStepsSpec)

/-- ITS FALSE NEIGHBOUR: 'it returns false'. Refute it at one input. -/
def bridgeStepsWrong : ChangeSpec := { name := "bridgeSteps", fn := fun _ => fun
  | [d] => { results := [.lit (.bool false)], args := [d] }
  | _ => none }
def BridgeStepsWrongFalsely : Prop := bridgeStepsRow.holds Try.pinned (OpenSpec.ofChange bridgeStepsWrong)

/-- 'swarflaw01.BridgeBest': WHATEVER THE INPUT: true; the input reads as it did. -/
def bridgeBestSpec : ChangeSpec := { name := "bridgeBest", fn := fun _ => fun
  | [d] => { results := [.lit (.bool true)], args := [d] }
  | _ => none }
def bridgeBestRow : OpenClaim := { program := "ytgbogdckmfencaa", sum := "3707efd2d10c405084d50ebe0ae202b5d3b874ca0e21b1cc0c857e41caaa7ae0", func := "swarf/swarflaw01.BridgeBest", spec := "bridgeBest", unfollowed := true, recurses := true, apart := false }
def BridgeBestSaid : Prop := bridgeBestRow.holds Try.pinned (OpenSpec.ofChange bridgeBestSpec)

/-- ITS FALSE NEIGHBOUR: 'it returns false'. Refute it at one input. -/
def bridgeBestWrong : ChangeSpec := { name := "bridgeBest", fn := fun _ => fun
  | [d] => { results := [.lit (.bool false)], args := [d] }
  | _ => none }
def BridgeBestWrongFalsely : Prop := bridgeBestRow.holds Try.pinned (OpenSpec.ofChange bridgeBestWrong)

/-- 'swarflaw01.BridgeTogether': WHATEVER THE INPUT: true; the input reads as it did. -/
def bridgeTogetherSpec : ChangeSpec := { name := "bridgeTogether", fn := fun _ => fun
  | [d] => { results := [.lit (.bool true)], args := [d] }
  | _ => none }
def bridgeTogetherRow : OpenClaim := { program := "ytgbogdckmfencaa", sum := "3707efd2d10c405084d50ebe0ae202b5d3b874ca0e21b1cc0c857e41caaa7ae0", func := "swarf/swarflaw01.BridgeTogether", spec := "bridgeTogether", unfollowed := true, recurses := true, apart := false }
def BridgeTogetherSaid : Prop := bridgeTogetherRow.holds Try.pinned (OpenSpec.ofChange bridgeTogetherSpec)

/-- ITS FALSE NEIGHBOUR: 'it returns false'. Refute it at one input. -/
def bridgeTogetherWrong : ChangeSpec := { name := "bridgeTogether", fn := fun _ => fun
  | [d] => { results := [.lit (.bool false)], args := [d] }
  | _ => none }
def BridgeTogetherWrongFalsely : Prop := bridgeTogetherRow.holds Try.pinned (OpenSpec.ofChange bridgeTogetherWrong)

/- THE SECOND FORM. 'bulk': how many values and letters a reading holds, each counted each time it is reached (what is shared counts as often as it is met; a slice's spare places count too). A statement '..UptoSaid' is the law's where the arguments, and the package variables that the reading takes, are together of bulk at most 1048576: NARROWER than '..Said'. Prove '..Said' where nothing that the law and all that it calls make is longer than what came in: it says more and counts as full. Else prove '..UptoSaid'. A law counts once. -/
mutual
def uptoBulk {H : Type} : DataW H → Nat
  | .lit (.string bytes) => bytes.length + 1
  | .lit _ => 1
  | .nil => 1
  | .ptr d => uptoBulk d + 1
  | .slice elems spare => uptoBulkAll elems + uptoBulkAll spare + 1
  | .agg parts => uptoBulkAll parts + 1
  | .iface _ d => uptoBulk d + 1
  | .map entries => uptoBulkEntries entries + 1
  | .held _ => 1
def uptoBulkAll {H : Type} : List (DataW H) → Nat
  | [] => 0
  | d :: r => uptoBulk d + uptoBulkAll r
def uptoBulkEntries {H : Type} : List (Lit × DataW H) → Nat
  | [] => 0
  | x :: r => uptoBulkEntry x + uptoBulkEntries r
def uptoBulkEntry {H : Type} : Lit × DataW H → Nat
  | (.string bytes, d) => bytes.length + uptoBulk d + 1
  | (_, d) => uptoBulk d + 1
 end
def uptoSmall : (H : Type) → List (DataW H) → Bool := fun _ ds => decide (uptoBulkAll ds ≤ 1048576)
def OpenSpec.upto (s : _root_.Go.ChangeSpec) : _root_.Go.OpenSpec := { _root_.Go.OpenSpec.ofChange s with cond := some uptoSmall }

/-- 'swarflaw01.BridgeZeros', WHERE WHAT IT READS IS OF BULK AT MOST 1048576: true; the input reads as it did. -/
def bridgeZerosUptoRow : OpenClaim := { program := "ytgbogdckmfencaa", sum := "3707efd2d10c405084d50ebe0ae202b5d3b874ca0e21b1cc0c857e41caaa7ae0", func := "swarf/swarflaw01.BridgeZeros", spec := "bridgeZeros", unfollowed := true, recurses := true, apart := false, narrowed := true }
def BridgeZerosUptoSaid : Prop := bridgeZerosUptoRow.holds Try.pinned (OpenSpec.upto bridgeZerosSpec)

/-- 'swarflaw01.BridgeNets', WHERE WHAT IT READS IS OF BULK AT MOST 1048576: true; the input reads as it did. -/
def bridgeNetsUptoRow : OpenClaim := { program := "ytgbogdckmfencaa", sum := "3707efd2d10c405084d50ebe0ae202b5d3b874ca0e21b1cc0c857e41caaa7ae0", func := "swarf/swarflaw01.BridgeNets", spec := "bridgeNets", unfollowed := true, recurses := true, apart := false, narrowed := true }
def BridgeNetsUptoSaid : Prop := bridgeNetsUptoRow.holds Try.pinned (OpenSpec.upto bridgeNetsSpec)

/-- 'swarflaw01.BridgeTests', WHERE WHAT IT READS IS OF BULK AT MOST 1048576: true; the input reads as it did. -/
def bridgeTestsUptoRow : OpenClaim := { program := "ytgbogdckmfencaa", sum := "3707efd2d10c405084d50ebe0ae202b5d3b874ca0e21b1cc0c857e41caaa7ae0", func := "swarf/swarflaw01.BridgeTests", spec := "bridgeTests", unfollowed := true, recurses := true, apart := false, narrowed := true }
def BridgeTestsUptoSaid : Prop := bridgeTestsUptoRow.holds Try.pinned (OpenSpec.upto bridgeTestsSpec)

/-- 'swarflaw01.BridgeTrue', WHERE WHAT IT READS IS OF BULK AT MOST 1048576: true; the input reads as it did. -/
def bridgeTrueUptoRow : OpenClaim := { program := "ytgbogdckmfencaa", sum := "3707efd2d10c405084d50ebe0ae202b5d3b874ca0e21b1cc0c857e41caaa7ae0", func := "swarf/swarflaw01.BridgeTrue", spec := "bridgeTrue", unfollowed := true, recurses := true, apart := false, narrowed := true }
def BridgeTrueUptoSaid : Prop := bridgeTrueUptoRow.holds Try.pinned (OpenSpec.upto bridgeTrueSpec)

/-- 'swarflaw01.BridgeEnds', WHERE WHAT IT READS IS OF BULK AT MOST 1048576: true; the input reads as it did. -/
def bridgeEndsUptoRow : OpenClaim := { program := "ytgbogdckmfencaa", sum := "3707efd2d10c405084d50ebe0ae202b5d3b874ca0e21b1cc0c857e41caaa7ae0", func := "swarf/swarflaw01.BridgeEnds", spec := "bridgeEnds", unfollowed := true, recurses := true, apart := false, narrowed := true }
def BridgeEndsUptoSaid : Prop := bridgeEndsUptoRow.holds Try.pinned (OpenSpec.upto bridgeEndsSpec)

/-- 'swarflaw01.BridgeFirst', WHERE WHAT IT READS IS OF BULK AT MOST 1048576: true; the input reads as it did. -/
def bridgeFirstUptoRow : OpenClaim := { program := "ytgbogdckmfencaa", sum := "3707efd2d10c405084d50ebe0ae202b5d3b874ca0e21b1cc0c857e41caaa7ae0", func := "swarf/swarflaw01.BridgeFirst", spec := "bridgeFirst", unfollowed := true, recurses := true, apart := false, narrowed := true }
def BridgeFirstUptoSaid : Prop := bridgeFirstUptoRow.holds Try.pinned (OpenSpec.upto bridgeFirstSpec)

/-- 'swarflaw01.BridgeMore', WHERE WHAT IT READS IS OF BULK AT MOST 1048576: true; the input reads as it did. -/
def bridgeMoreUptoRow : OpenClaim := { program := "ytgbogdckmfencaa", sum := "3707efd2d10c405084d50ebe0ae202b5d3b874ca0e21b1cc0c857e41caaa7ae0", func := "swarf/swarflaw01.BridgeMore", spec := "bridgeMore", unfollowed := true, recurses := true, apart := false, narrowed := true }
def BridgeMoreUptoSaid : Prop := bridgeMoreUptoRow.holds Try.pinned (OpenSpec.upto bridgeMoreSpec)

/-- 'swarflaw01.BridgeDriver', WHERE WHAT IT READS IS OF BULK AT MOST 1048576: true; the input reads as it did. -/
def bridgeDriverUptoRow : OpenClaim := { program := "ytgbogdckmfencaa", sum := "3707efd2d10c405084d50ebe0ae202b5d3b874ca0e21b1cc0c857e41caaa7ae0", func := "swarf/swarflaw01.BridgeDriver", spec := "bridgeDriver", unfollowed := true, recurses := true, apart := false, narrowed := true }
def BridgeDriverUptoSaid : Prop := bridgeDriverUptoRow.holds Try.pinned (OpenSpec.upto bridgeDriverSpec)

/-- 'swarflaw01.BridgeSteps', WHERE WHAT IT READS IS OF BULK AT MOST 1048576: true; the input reads as it did. -/
def bridgeStepsUptoRow : OpenClaim := { program := "ytgbogdckmfencaa", sum := "3707efd2d10c405084d50ebe0ae202b5d3b874ca0e21b1cc0c857e41caaa7ae0", func := "swarf/swarflaw01.BridgeSteps", spec := "bridgeSteps", unfollowed := true, recurses := true, apart := false, narrowed := true }
def BridgeStepsUptoSaid : Prop := bridgeStepsUptoRow.holds Try.pinned (OpenSpec.upto bridgeStepsSpec)

/-- 'swarflaw01.BridgeBest', WHERE WHAT IT READS IS OF BULK AT MOST 1048576: true; the input reads as it did. -/
def bridgeBestUptoRow : OpenClaim := { program := "ytgbogdckmfencaa", sum := "3707efd2d10c405084d50ebe0ae202b5d3b874ca0e21b1cc0c857e41caaa7ae0", func := "swarf/swarflaw01.BridgeBest", spec := "bridgeBest", unfollowed := true, recurses := true, apart := false, narrowed := true }
def BridgeBestUptoSaid : Prop := bridgeBestUptoRow.holds Try.pinned (OpenSpec.upto bridgeBestSpec)

/-- 'swarflaw01.BridgeTogether', WHERE WHAT IT READS IS OF BULK AT MOST 1048576: true; the input reads as it did. -/
def bridgeTogetherUptoRow : OpenClaim := { program := "ytgbogdckmfencaa", sum := "3707efd2d10c405084d50ebe0ae202b5d3b874ca0e21b1cc0c857e41caaa7ae0", func := "swarf/swarflaw01.BridgeTogether", spec := "bridgeTogether", unfollowed := true, recurses := true, apart := false, narrowed := true }
def BridgeTogetherUptoSaid : Prop := bridgeTogetherUptoRow.holds Try.pinned (OpenSpec.upto bridgeTogetherSpec)

end Rows
end Go.Proofs.Ytgbogdckmfencaa
