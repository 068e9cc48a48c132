/-
  No cell of these rows narrows 'for every input' (looked for: loops, veiled, ifaces, maps, wideKeys, modest, calm, conditions, laid).
  DERIVED. THE GIVEN ROWS OF THIS SEAT. 6 by the template 'for every input the law returns true; each argument reads behind the call as it read before'; 0 by the template 'total and deterministic' (their statements: YtbhehicfenkbcaaTotals.lean).
  GIVEN WITH THE SEED: the statements are not yours to turn. If you find one false, say at which input.
  Laid BY PROGRAM, IN A SANDBOX (cutbox-rows.mjs): the forced cells as the released guide's own fill.sh prints them over the translation 1daba7b5fc346bb6… (all of the seat's roots in one cut). By AI agents, Wed Nov 11 2026. No macro, syntax, notation, axiom, sorry.
-/
import Derived.Test.YtbhehicfenkbcaaChecked
import GoSem.Claim
import GoSem.ClaimJoined
import GoSem.ClaimMapViews
import Derived.JoinedTies
import Derived.KernelRfl
namespace Go.Proofs.Ytbhehicfenkbcaa
/- THE CELL 'sum', in the pinned program and in every row, IS THE sha256 OF THE DUMP (.gsa) THAT YtbhehicfenkbcaaProg.lean LOADS. Nothing in Lean hashes anything: it is a label: what it is worth is what the hold of that sum in a sandbox is worth. -/
noncomputable def Try.pinned : Pinned := { name := "ytbhehicfenkbcaa", sum := "1daba7b5fc346bb6ab12b5828554dd5512d1871f84e1ba95d9d07c25a42ec6b2", checked := Try.checked }
namespace Rows
def none {H : Type} : Left H := { results := [], args := [] }

/-- 'freeboardlaw08.SplitNames': WHATEVER THE INPUT: true; the input reads as it did. -/
def splitNamesSpec : ChangeSpec := { name := "splitNames", fn := fun _ => fun
  | [] => { results := [.lit (.bool true)], args := [] }
  | _ => none }
def splitNamesRow : OpenClaim := { program := "ytbhehicfenkbcaa", sum := "1daba7b5fc346bb6ab12b5828554dd5512d1871f84e1ba95d9d07c25a42ec6b2", func := "freeboard/freeboardlaw08.SplitNames", spec := "splitNames", apart := false }
def SplitNamesSaid : Prop := splitNamesRow.holds Try.pinned (OpenSpec.ofChange splitNamesSpec)

/-- ITS FALSE NEIGHBOUR: 'it returns false'. Refute it at one input. -/
def splitNamesWrong : ChangeSpec := { name := "splitNames", fn := fun _ => fun
  | [] => { results := [.lit (.bool false)], args := [] }
  | _ => none }
def SplitNamesWrongFalsely : Prop := splitNamesRow.holds Try.pinned (OpenSpec.ofChange splitNamesWrong)

/-- 'freeboardlaw08.SplitTells': WHATEVER THE INPUT: true; the input reads as it did. -/
def splitTellsSpec : ChangeSpec := { name := "splitTells", fn := fun _ => fun
  | [d1, d2, d3] => { results := [.lit (.bool true)], args := [d1, d2, d3] }
  | _ => none }
def splitTellsRow : OpenClaim := { program := "ytbhehicfenkbcaa", sum := "1daba7b5fc346bb6ab12b5828554dd5512d1871f84e1ba95d9d07c25a42ec6b2", func := "freeboard/freeboardlaw08.SplitTells", spec := "splitTells", apart := false }
def SplitTellsSaid : Prop := splitTellsRow.holds Try.pinned (OpenSpec.ofChange splitTellsSpec)

/-- ITS FALSE NEIGHBOUR: 'it returns false'. Refute it at one input. -/
def splitTellsWrong : ChangeSpec := { name := "splitTells", fn := fun _ => fun
  | [d1, d2, d3] => { results := [.lit (.bool false)], args := [d1, d2, d3] }
  | _ => none }
def SplitTellsWrongFalsely : Prop := splitTellsRow.holds Try.pinned (OpenSpec.ofChange splitTellsWrong)

/-- 'freeboardlaw08.SplitAll': WHATEVER THE INPUT: true; the input reads as it did. -/
def splitAllSpec : ChangeSpec := { name := "splitAll", fn := fun _ => fun
  | [d1, d2, d3] => { results := [.lit (.bool true)], args := [d1, d2, d3] }
  | _ => none }
def splitAllRow : OpenClaim := { program := "ytbhehicfenkbcaa", sum := "1daba7b5fc346bb6ab12b5828554dd5512d1871f84e1ba95d9d07c25a42ec6b2", func := "freeboard/freeboardlaw08.SplitAll", spec := "splitAll", apart := false }
def SplitAllSaid : Prop := splitAllRow.holds Try.pinned (OpenSpec.ofChange splitAllSpec)

/-- ITS FALSE NEIGHBOUR: 'it returns false'. Refute it at one input. -/
def splitAllWrong : ChangeSpec := { name := "splitAll", fn := fun _ => fun
  | [d1, d2, d3] => { results := [.lit (.bool false)], args := [d1, d2, d3] }
  | _ => none }
def SplitAllWrongFalsely : Prop := splitAllRow.holds Try.pinned (OpenSpec.ofChange splitAllWrong)

/-- 'freeboardlaw08.SplitMutual': WHATEVER THE INPUT: true; the input reads as it did. -/
def splitMutualSpec : ChangeSpec := { name := "splitMutual", fn := fun _ => fun
  | [d1, d2, d3] => { results := [.lit (.bool true)], args := [d1, d2, d3] }
  | _ => none }
def splitMutualRow : OpenClaim := { program := "ytbhehicfenkbcaa", sum := "1daba7b5fc346bb6ab12b5828554dd5512d1871f84e1ba95d9d07c25a42ec6b2", func := "freeboard/freeboardlaw08.SplitMutual", spec := "splitMutual", apart := false }
def SplitMutualSaid : Prop := splitMutualRow.holds Try.pinned (OpenSpec.ofChange splitMutualSpec)

/-- ITS FALSE NEIGHBOUR: 'it returns false'. Refute it at one input. -/
def splitMutualWrong : ChangeSpec := { name := "splitMutual", fn := fun _ => fun
  | [d1, d2, d3] => { results := [.lit (.bool false)], args := [d1, d2, d3] }
  | _ => none }
def SplitMutualWrongFalsely : Prop := splitMutualRow.holds Try.pinned (OpenSpec.ofChange splitMutualWrong)

/-- 'freeboardlaw08.SplitKinds': WHATEVER THE INPUT: true; the input reads as it did. -/
def splitKindsSpec : ChangeSpec := { name := "splitKinds", fn := fun _ => fun
  | [d1, d2, d3, d4] => { results := [.lit (.bool true)], args := [d1, d2, d3, d4] }
  | _ => none }
def splitKindsRow : OpenClaim := { program := "ytbhehicfenkbcaa", sum := "1daba7b5fc346bb6ab12b5828554dd5512d1871f84e1ba95d9d07c25a42ec6b2", func := "freeboard/freeboardlaw08.SplitKinds", spec := "splitKinds", apart := false }
def SplitKindsSaid : Prop := splitKindsRow.holds Try.pinned (OpenSpec.ofChange splitKindsSpec)

/-- ITS FALSE NEIGHBOUR: 'it returns false'. Refute it at one input. -/
def splitKindsWrong : ChangeSpec := { name := "splitKinds", fn := fun _ => fun
  | [d1, d2, d3, d4] => { results := [.lit (.bool false)], args := [d1, d2, d3, d4] }
  | _ => none }
def SplitKindsWrongFalsely : Prop := splitKindsRow.holds Try.pinned (OpenSpec.ofChange splitKindsWrong)

/-- 'freeboardlaw08.SplitBytes': WHATEVER THE INPUT: true; the input reads as it did. -/
def splitBytesSpec : ChangeSpec := { name := "splitBytes", fn := fun _ => fun
  | [d1, d2] => { results := [.lit (.bool true)], args := [d1, d2] }
  | _ => none }
def splitBytesRow : OpenClaim := { program := "ytbhehicfenkbcaa", sum := "1daba7b5fc346bb6ab12b5828554dd5512d1871f84e1ba95d9d07c25a42ec6b2", func := "freeboard/freeboardlaw08.SplitBytes", spec := "splitBytes", apart := false }
def SplitBytesSaid : Prop := splitBytesRow.holds Try.pinned (OpenSpec.ofChange splitBytesSpec)

/-- ITS FALSE NEIGHBOUR: 'it returns false'. Refute it at one input. -/
def splitBytesWrong : ChangeSpec := { name := "splitBytes", fn := fun _ => fun
  | [d1, d2] => { results := [.lit (.bool false)], args := [d1, d2] }
  | _ => none }
def SplitBytesWrongFalsely : Prop := splitBytesRow.holds Try.pinned (OpenSpec.ofChange splitBytesWrong)

/- THE SECOND FORM. 'bulk': how many values and letters a reading holds, each counted each time it is reached (what is shared counts as often as it is met; a slice's spare places count too). A statement '..UptoSaid' is the law's where the arguments, and the package variables that the reading takes, are together of bulk at most 1048576: NARROWER than '..Said'. Prove '..Said' where nothing that the law and all that it calls make is longer than what came in: it says more and counts as full. Else prove '..UptoSaid'. A law counts once. -/
mutual
def uptoBulk {H : Type} : DataW H → Nat
  | .lit (.string bytes) => bytes.length + 1
  | .lit _ => 1
  | .nil => 1
  | .ptr d => uptoBulk d + 1
  | .slice elems spare => uptoBulkAll elems + uptoBulkAll spare + 1
  | .agg parts => uptoBulkAll parts + 1
  | .iface _ d => uptoBulk d + 1
  | .map entries => uptoBulkEntries entries + 1
  | .held _ => 1
def uptoBulkAll {H : Type} : List (DataW H) → Nat
  | [] => 0
  | d :: r => uptoBulk d + uptoBulkAll r
def uptoBulkEntries {H : Type} : List (Lit × DataW H) → Nat
  | [] => 0
  | x :: r => uptoBulkEntry x + uptoBulkEntries r
def uptoBulkEntry {H : Type} : Lit × DataW H → Nat
  | (.string bytes, d) => bytes.length + uptoBulk d + 1
  | (_, d) => uptoBulk d + 1
 end
def uptoSmall : (H : Type) → List (DataW H) → Bool := fun _ ds => decide (uptoBulkAll ds ≤ 1048576)
def OpenSpec.upto (s : _root_.Go.ChangeSpec) : _root_.Go.OpenSpec := { _root_.Go.OpenSpec.ofChange s with cond := some uptoSmall }

/-- 'freeboardlaw08.SplitNames', WHERE WHAT IT READS IS OF BULK AT MOST 1048576: true; the input reads as it did. -/
def splitNamesUptoRow : OpenClaim := { program := "ytbhehicfenkbcaa", sum := "1daba7b5fc346bb6ab12b5828554dd5512d1871f84e1ba95d9d07c25a42ec6b2", func := "freeboard/freeboardlaw08.SplitNames", spec := "splitNames", apart := false, narrowed := true }
def SplitNamesUptoSaid : Prop := splitNamesUptoRow.holds Try.pinned (OpenSpec.upto splitNamesSpec)

/-- 'freeboardlaw08.SplitTells', WHERE WHAT IT READS IS OF BULK AT MOST 1048576: true; the input reads as it did. -/
def splitTellsUptoRow : OpenClaim := { program := "ytbhehicfenkbcaa", sum := "1daba7b5fc346bb6ab12b5828554dd5512d1871f84e1ba95d9d07c25a42ec6b2", func := "freeboard/freeboardlaw08.SplitTells", spec := "splitTells", apart := false, narrowed := true }
def SplitTellsUptoSaid : Prop := splitTellsUptoRow.holds Try.pinned (OpenSpec.upto splitTellsSpec)

/-- 'freeboardlaw08.SplitAll', WHERE WHAT IT READS IS OF BULK AT MOST 1048576: true; the input reads as it did. -/
def splitAllUptoRow : OpenClaim := { program := "ytbhehicfenkbcaa", sum := "1daba7b5fc346bb6ab12b5828554dd5512d1871f84e1ba95d9d07c25a42ec6b2", func := "freeboard/freeboardlaw08.SplitAll", spec := "splitAll", apart := false, narrowed := true }
def SplitAllUptoSaid : Prop := splitAllUptoRow.holds Try.pinned (OpenSpec.upto splitAllSpec)

/-- 'freeboardlaw08.SplitMutual', WHERE WHAT IT READS IS OF BULK AT MOST 1048576: true; the input reads as it did. -/
def splitMutualUptoRow : OpenClaim := { program := "ytbhehicfenkbcaa", sum := "1daba7b5fc346bb6ab12b5828554dd5512d1871f84e1ba95d9d07c25a42ec6b2", func := "freeboard/freeboardlaw08.SplitMutual", spec := "splitMutual", apart := false, narrowed := true }
def SplitMutualUptoSaid : Prop := splitMutualUptoRow.holds Try.pinned (OpenSpec.upto splitMutualSpec)

/-- 'freeboardlaw08.SplitKinds', WHERE WHAT IT READS IS OF BULK AT MOST 1048576: true; the input reads as it did. -/
def splitKindsUptoRow : OpenClaim := { program := "ytbhehicfenkbcaa", sum := "1daba7b5fc346bb6ab12b5828554dd5512d1871f84e1ba95d9d07c25a42ec6b2", func := "freeboard/freeboardlaw08.SplitKinds", spec := "splitKinds", apart := false, narrowed := true }
def SplitKindsUptoSaid : Prop := splitKindsUptoRow.holds Try.pinned (OpenSpec.upto splitKindsSpec)

/-- 'freeboardlaw08.SplitBytes', WHERE WHAT IT READS IS OF BULK AT MOST 1048576: true; the input reads as it did. -/
def splitBytesUptoRow : OpenClaim := { program := "ytbhehicfenkbcaa", sum := "1daba7b5fc346bb6ab12b5828554dd5512d1871f84e1ba95d9d07c25a42ec6b2", func := "freeboard/freeboardlaw08.SplitBytes", spec := "splitBytes", apart := false, narrowed := true }
def SplitBytesUptoSaid : Prop := splitBytesUptoRow.holds Try.pinned (OpenSpec.upto splitBytesSpec)

end Rows
end Go.Proofs.Ytbhehicfenkbcaa
