/-
  No cell of these rows narrows 'for every input' (looked for: loops, veiled, ifaces, maps, wideKeys, modest, calm, conditions, laid).
  DERIVED. THE GIVEN ROWS OF THIS SEAT. 7 by the template 'for every input the law returns true; each argument reads behind the call as it read before'; 0 by the template 'total and deterministic' (their statements: YtleaphlignfkjaaTotals.lean).
  GIVEN WITH THE SEED: the statements are not yours to turn. If you find one false, say at which input.
  Laid BY PROGRAM, IN A SANDBOX (cutbox-rows.mjs): the forced cells as the released guide's own fill.sh prints them over the translation c92a9e1e1c16e577… (all of the seat's roots in one cut). By AI agents, Wed Nov 11 2026. No macro, syntax, notation, axiom, sorry.
-/
import Derived.Test.YtleaphlignfkjaaChecked
import GoSem.Claim
import GoSem.ClaimJoined
import GoSem.ClaimMapViews
import Derived.JoinedTies
import Derived.KernelRfl
namespace Go.Proofs.Ytleaphlignfkjaa
/- THE CELL 'sum', in the pinned program and in every row, IS THE sha256 OF THE DUMP (.gsa) THAT YtleaphlignfkjaaProg.lean LOADS. Nothing in Lean hashes anything: it is a label: what it is worth is what the hold of that sum in a sandbox is worth. -/
noncomputable def Try.pinned : Pinned := { name := "ytleaphlignfkjaa", sum := "c92a9e1e1c16e5779f8e7384245c8e8d3c6d5d0c91e4151368e76fe530c5af15", checked := Try.checked }
namespace Rows
def none {H : Type} : Left H := { results := [], args := [] }

/-- 'freeboardlaw09.LabelNames': WHATEVER THE INPUT: true; the input reads as it did. -/
def labelNamesSpec : ChangeSpec := { name := "labelNames", fn := fun _ => fun
  | [] => { results := [.lit (.bool true)], args := [] }
  | _ => none }
def labelNamesRow : OpenClaim := { program := "ytleaphlignfkjaa", sum := "c92a9e1e1c16e5779f8e7384245c8e8d3c6d5d0c91e4151368e76fe530c5af15", func := "freeboard/freeboardlaw09.LabelNames", spec := "labelNames", unfollowed := true, recurses := true, apart := false }
def LabelNamesSaid : Prop := labelNamesRow.holds Try.pinned (OpenSpec.ofChange labelNamesSpec)

/-- ITS FALSE NEIGHBOUR: 'it returns false'. Refute it at one input. -/
def labelNamesWrong : ChangeSpec := { name := "labelNames", fn := fun _ => fun
  | [] => { results := [.lit (.bool false)], args := [] }
  | _ => none }
def LabelNamesWrongFalsely : Prop := labelNamesRow.holds Try.pinned (OpenSpec.ofChange labelNamesWrong)

/-- 'freeboardlaw09.LabelWrites': WHATEVER THE INPUT: true; the input reads as it did. -/
def labelWritesSpec : ChangeSpec := { name := "labelWrites", fn := fun _ => fun
  | [d] => { results := [.lit (.bool true)], args := [d] }
  | _ => none }
def labelWritesRow : OpenClaim := { program := "ytleaphlignfkjaa", sum := "c92a9e1e1c16e5779f8e7384245c8e8d3c6d5d0c91e4151368e76fe530c5af15", func := "freeboard/freeboardlaw09.LabelWrites", spec := "labelWrites", unfollowed := true, recurses := true, apart := false }
def LabelWritesSaid : Prop := labelWritesRow.holds Try.pinned (OpenSpec.ofChange labelWritesSpec)

/-- ITS FALSE NEIGHBOUR: 'it returns false'. Refute it at one input. -/
def labelWritesWrong : ChangeSpec := { name := "labelWrites", fn := fun _ => fun
  | [d] => { results := [.lit (.bool false)], args := [d] }
  | _ => none }
def LabelWritesWrongFalsely : Prop := labelWritesRow.holds Try.pinned (OpenSpec.ofChange labelWritesWrong)

/-- 'freeboardlaw09.LabelReads': WHATEVER THE INPUT: true; the input reads as it did. -/
def labelReadsSpec : ChangeSpec := { name := "labelReads", fn := fun _ => fun
  | [d] => { results := [.lit (.bool true)], args := [d] }
  | _ => none }
def labelReadsRow : OpenClaim := { program := "ytleaphlignfkjaa", sum := "c92a9e1e1c16e5779f8e7384245c8e8d3c6d5d0c91e4151368e76fe530c5af15", func := "freeboard/freeboardlaw09.LabelReads", spec := "labelReads", unfollowed := true, recurses := true, apart := false }
def LabelReadsSaid : Prop := labelReadsRow.holds Try.pinned (OpenSpec.ofChange labelReadsSpec)

/-- ITS FALSE NEIGHBOUR: 'it returns false'. Refute it at one input. -/
def labelReadsWrong : ChangeSpec := { name := "labelReads", fn := fun _ => fun
  | [d] => { results := [.lit (.bool false)], args := [d] }
  | _ => none }
def LabelReadsWrongFalsely : Prop := labelReadsRow.holds Try.pinned (OpenSpec.ofChange labelReadsWrong)

/-- 'freeboardlaw09.LabelBack': WHATEVER THE INPUT: true; the input reads as it did. -/
def labelBackSpec : ChangeSpec := { name := "labelBack", fn := fun _ => fun
  | [d1, d2] => { results := [.lit (.bool true)], args := [d1, d2] }
  | _ => none }
def labelBackRow : OpenClaim := { program := "ytleaphlignfkjaa", sum := "c92a9e1e1c16e5779f8e7384245c8e8d3c6d5d0c91e4151368e76fe530c5af15", func := "freeboard/freeboardlaw09.LabelBack", spec := "labelBack", unfollowed := true, recurses := true, apart := false }
def LabelBackSaid : Prop := labelBackRow.holds Try.pinned (OpenSpec.ofChange labelBackSpec)

/-- ITS FALSE NEIGHBOUR: 'it returns false'. Refute it at one input. -/
def labelBackWrong : ChangeSpec := { name := "labelBack", fn := fun _ => fun
  | [d1, d2] => { results := [.lit (.bool false)], args := [d1, d2] }
  | _ => none }
def LabelBackWrongFalsely : Prop := labelBackRow.holds Try.pinned (OpenSpec.ofChange labelBackWrong)

/-- 'freeboardlaw09.LabelTurns': WHATEVER THE INPUT: true; the input reads as it did. -/
def labelTurnsSpec : ChangeSpec := { name := "labelTurns", fn := fun _ => fun
  | [d1, d2, d3] => { results := [.lit (.bool true)], args := [d1, d2, d3] }
  | _ => none }
def labelTurnsRow : OpenClaim := { program := "ytleaphlignfkjaa", sum := "c92a9e1e1c16e5779f8e7384245c8e8d3c6d5d0c91e4151368e76fe530c5af15", func := "freeboard/freeboardlaw09.LabelTurns", spec := "labelTurns", unfollowed := true, recurses := true, apart := false }
def LabelTurnsSaid : Prop := labelTurnsRow.holds Try.pinned (OpenSpec.ofChange labelTurnsSpec)

/-- ITS FALSE NEIGHBOUR: 'it returns false'. Refute it at one input. -/
def labelTurnsWrong : ChangeSpec := { name := "labelTurns", fn := fun _ => fun
  | [d1, d2, d3] => { results := [.lit (.bool false)], args := [d1, d2, d3] }
  | _ => none }
def LabelTurnsWrongFalsely : Prop := labelTurnsRow.holds Try.pinned (OpenSpec.ofChange labelTurnsWrong)

/-- 'freeboardlaw09.LabelUnlike': WHATEVER THE INPUT: true; the input reads as it did. -/
def labelUnlikeSpec : ChangeSpec := { name := "labelUnlike", fn := fun _ => fun
  | [d1, d2] => { results := [.lit (.bool true)], args := [d1, d2] }
  | _ => none }
def labelUnlikeRow : OpenClaim := { program := "ytleaphlignfkjaa", sum := "c92a9e1e1c16e5779f8e7384245c8e8d3c6d5d0c91e4151368e76fe530c5af15", func := "freeboard/freeboardlaw09.LabelUnlike", spec := "labelUnlike", unfollowed := true, recurses := true, apart := false }
def LabelUnlikeSaid : Prop := labelUnlikeRow.holds Try.pinned (OpenSpec.ofChange labelUnlikeSpec)

/-- ITS FALSE NEIGHBOUR: 'it returns false'. Refute it at one input. -/
def labelUnlikeWrong : ChangeSpec := { name := "labelUnlike", fn := fun _ => fun
  | [d1, d2] => { results := [.lit (.bool false)], args := [d1, d2] }
  | _ => none }
def LabelUnlikeWrongFalsely : Prop := labelUnlikeRow.holds Try.pinned (OpenSpec.ofChange labelUnlikeWrong)

/-- 'freeboardlaw09.LabelBounds': WHATEVER THE INPUT: true; the input reads as it did. -/
def labelBoundsSpec : ChangeSpec := { name := "labelBounds", fn := fun _ => fun
  | [d1, d2, d3, d4] => { results := [.lit (.bool true)], args := [d1, d2, d3, d4] }
  | _ => none }
def labelBoundsRow : OpenClaim := { program := "ytleaphlignfkjaa", sum := "c92a9e1e1c16e5779f8e7384245c8e8d3c6d5d0c91e4151368e76fe530c5af15", func := "freeboard/freeboardlaw09.LabelBounds", spec := "labelBounds", unfollowed := true, recurses := true, apart := false }
def LabelBoundsSaid : Prop := labelBoundsRow.holds Try.pinned (OpenSpec.ofChange labelBoundsSpec)

/-- ITS FALSE NEIGHBOUR: 'it returns false'. Refute it at one input. -/
def labelBoundsWrong : ChangeSpec := { name := "labelBounds", fn := fun _ => fun
  | [d1, d2, d3, d4] => { results := [.lit (.bool false)], args := [d1, d2, d3, d4] }
  | _ => none }
def LabelBoundsWrongFalsely : Prop := labelBoundsRow.holds Try.pinned (OpenSpec.ofChange labelBoundsWrong)

/- THE SECOND FORM. 'bulk': how many values and letters a reading holds, each counted each time it is reached (what is shared counts as often as it is met; a slice's spare places count too). A statement '..UptoSaid' is the law's where the arguments, and the package variables that the reading takes, are together of bulk at most 1048576: NARROWER than '..Said'. Prove '..Said' where nothing that the law and all that it calls make is longer than what came in: it says more and counts as full. Else prove '..UptoSaid'. A law counts once. -/
mutual
def uptoBulk {H : Type} : DataW H → Nat
  | .lit (.string bytes) => bytes.length + 1
  | .lit _ => 1
  | .nil => 1
  | .ptr d => uptoBulk d + 1
  | .slice elems spare => uptoBulkAll elems + uptoBulkAll spare + 1
  | .agg parts => uptoBulkAll parts + 1
  | .iface _ d => uptoBulk d + 1
  | .map entries => uptoBulkEntries entries + 1
  | .held _ => 1
def uptoBulkAll {H : Type} : List (DataW H) → Nat
  | [] => 0
  | d :: r => uptoBulk d + uptoBulkAll r
def uptoBulkEntries {H : Type} : List (Lit × DataW H) → Nat
  | [] => 0
  | x :: r => uptoBulkEntry x + uptoBulkEntries r
def uptoBulkEntry {H : Type} : Lit × DataW H → Nat
  | (.string bytes, d) => bytes.length + uptoBulk d + 1
  | (_, d) => uptoBulk d + 1
 end
def uptoSmall : (H : Type) → List (DataW H) → Bool := fun _ ds => decide (uptoBulkAll ds ≤ 1048576)
def OpenSpec.upto (s : _root_.Go.ChangeSpec) : _root_.Go.OpenSpec := { _root_.Go.OpenSpec.ofChange s with cond := some uptoSmall }

/-- 'freeboardlaw09.LabelNames', WHERE WHAT IT READS IS OF BULK AT MOST 1048576: true; the input reads as it did. -/
def labelNamesUptoRow : OpenClaim := { program := "ytleaphlignfkjaa", sum := "c92a9e1e1c16e5779f8e7384245c8e8d3c6d5d0c91e4151368e76fe530c5af15", func := "freeboard/freeboardlaw09.LabelNames", spec := "labelNames", unfollowed := true, recurses := true, apart := false, narrowed := true }
def LabelNamesUptoSaid : Prop := labelNamesUptoRow.holds Try.pinned (OpenSpec.upto labelNamesSpec)

/-- 'freeboardlaw09.LabelWrites', WHERE WHAT IT READS IS OF BULK AT MOST 1048576: true; the input reads as it did. -/
def labelWritesUptoRow : OpenClaim := { program := "ytleaphlignfkjaa", sum := "c92a9e1e1c16e5779f8e7384245c8e8d3c6d5d0c91e4151368e76fe530c5af15", func := "freeboard/freeboardlaw09.LabelWrites", spec := "labelWrites", unfollowed := true, recurses := true, apart := false, narrowed := true }
def LabelWritesUptoSaid : Prop := labelWritesUptoRow.holds Try.pinned (OpenSpec.upto labelWritesSpec)

/-- 'freeboardlaw09.LabelReads', WHERE WHAT IT READS IS OF BULK AT MOST 1048576: true; the input reads as it did. -/
def labelReadsUptoRow : OpenClaim := { program := "ytleaphlignfkjaa", sum := "c92a9e1e1c16e5779f8e7384245c8e8d3c6d5d0c91e4151368e76fe530c5af15", func := "freeboard/freeboardlaw09.LabelReads", spec := "labelReads", unfollowed := true, recurses := true, apart := false, narrowed := true }
def LabelReadsUptoSaid : Prop := labelReadsUptoRow.holds Try.pinned (OpenSpec.upto labelReadsSpec)

/-- 'freeboardlaw09.LabelBack', WHERE WHAT IT READS IS OF BULK AT MOST 1048576: true; the input reads as it did. -/
def labelBackUptoRow : OpenClaim := { program := "ytleaphlignfkjaa", sum := "c92a9e1e1c16e5779f8e7384245c8e8d3c6d5d0c91e4151368e76fe530c5af15", func := "freeboard/freeboardlaw09.LabelBack", spec := "labelBack", unfollowed := true, recurses := true, apart := false, narrowed := true }
def LabelBackUptoSaid : Prop := labelBackUptoRow.holds Try.pinned (OpenSpec.upto labelBackSpec)

/-- 'freeboardlaw09.LabelTurns', WHERE WHAT IT READS IS OF BULK AT MOST 1048576: true; the input reads as it did. -/
def labelTurnsUptoRow : OpenClaim := { program := "ytleaphlignfkjaa", sum := "c92a9e1e1c16e5779f8e7384245c8e8d3c6d5d0c91e4151368e76fe530c5af15", func := "freeboard/freeboardlaw09.LabelTurns", spec := "labelTurns", unfollowed := true, recurses := true, apart := false, narrowed := true }
def LabelTurnsUptoSaid : Prop := labelTurnsUptoRow.holds Try.pinned (OpenSpec.upto labelTurnsSpec)

/-- 'freeboardlaw09.LabelUnlike', WHERE WHAT IT READS IS OF BULK AT MOST 1048576: true; the input reads as it did. -/
def labelUnlikeUptoRow : OpenClaim := { program := "ytleaphlignfkjaa", sum := "c92a9e1e1c16e5779f8e7384245c8e8d3c6d5d0c91e4151368e76fe530c5af15", func := "freeboard/freeboardlaw09.LabelUnlike", spec := "labelUnlike", unfollowed := true, recurses := true, apart := false, narrowed := true }
def LabelUnlikeUptoSaid : Prop := labelUnlikeUptoRow.holds Try.pinned (OpenSpec.upto labelUnlikeSpec)

/-- 'freeboardlaw09.LabelBounds', WHERE WHAT IT READS IS OF BULK AT MOST 1048576: true; the input reads as it did. -/
def labelBoundsUptoRow : OpenClaim := { program := "ytleaphlignfkjaa", sum := "c92a9e1e1c16e5779f8e7384245c8e8d3c6d5d0c91e4151368e76fe530c5af15", func := "freeboard/freeboardlaw09.LabelBounds", spec := "labelBounds", unfollowed := true, recurses := true, apart := false, narrowed := true }
def LabelBoundsUptoSaid : Prop := labelBoundsUptoRow.holds Try.pinned (OpenSpec.upto labelBoundsSpec)

end Rows
end Go.Proofs.Ytleaphlignfkjaa
