/-
  What every layer's walks share of one block of 128 bytes: its noughts by value, a call that hands back a new one. Nothing here names a function of the program.
-/
import Derived.Test.YtjdcnajppjamgaaBase
import Derived.RegionTactic
import Derived.ProofKit
namespace Go.Proofs.Ytjdcnajppjamgaa.PW
open Go.RowKit
set_option linter.unusedVariables false
set_option maxRecDepth 100000

theorem zero128 : (∀ w, (zeroValue 79).run Try.prog w = .ok (.agg ((List.replicate 128 0).map bv).toArray) w) ∧ (Try.prog.info? 79).map (·.size) = some 128 :=
  zero_of_info (by kernel_rfl)

theorem zero128' : ∃ Z : List Nat, Hid (Z = List.replicate 128 0) ∧ Z.length = 128 ∧ (∀ w, (zeroValue 79).run Try.prog w = .ok (.agg (Z.map bv).toArray) w) :=
  ⟨_, rfl, by simp, zero128.1⟩

end Go.Proofs.Ytjdcnajppjamgaa.PW
