/-
  What every layer's walks share of one block of 128 bytes: its noughts by value, a call that hands back a new one. Nothing here names a function of the program.
-/
import Derived.Test.YticojepedpionaaBase
import Derived.RegionTactic
import Derived.ProofKit
namespace Go.Proofs.Yticojepedpionaa.PW
open Go.RowKit
set_option linter.unusedVariables false

theorem zero128 : (∀ w, (zeroValue 39).run Try.prog w = .ok (.agg ((List.replicate 128 0).map bv).toArray) w) ∧ (Try.prog.info? 39).map (·.size) = some 128 :=
  zero_of_info (by kernel_rfl)

theorem zero128' : ∃ Z : List Nat, Hid (Z = List.replicate 128 0) ∧ Z.length = 128 ∧ (∀ w, (zeroValue 39).run Try.prog w = .ok (.agg (Z.map bv).toArray) w) :=
  ⟨_, rfl, by simp, zero128.1⟩

/-- What a call answers that hands back a new block. -/
def NewBlk (w : World) (m : List Nat) (e : Ending) (w' : World) : Prop :=
  ∃ g, e = .returned (.tuple #[.slice (some ⟨g, 0, none⟩) 128 128, .int .i64 0]) ∧ w.heap.size ≤ g ∧ Blk w' g m ∧ Below w.heap.size w w'

end Go.Proofs.Yticojepedpionaa.PW
