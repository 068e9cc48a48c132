/-
  Lists of ints. Nothing here names a function of the program.
-/
import Derived.Test.YtbhehicfenkbcaaKinds
namespace Go.Proofs.Ytbhehicfenkbcaa.PW
open Go.RowKit
set_option linter.unusedVariables false
set_option maxRecDepth 100000

def kInt : Kind Int := ⟨1, fun n => [.int .i64 n], fun _ => rfl, 0, fun _ _ _ _ => True, fun _ _ => trivial, fun _ _ _ => trivial⟩
theorem Rg.num {lo hi : Nat} {w : World} {b off : Nat} {len cap : Nat} {L : List Int} (h : Rg kInt lo hi w (some ⟨b, off, none⟩) len cap L) {k : Nat} (hk : k < L.length) : w.cell? ⟨b, off + k, none⟩ = some (.int .i64 (L.getD k 0)) := by
  have : w.cell? ⟨b, off + k * 1 + 0, none⟩ = _ := h.cellAt hk (j := 0) Nat.one_pos
  rw [Nat.mul_one] at this
  exact this
theorem typed_int : Typed kInt 3 26 :=
  ⟨⟨.int .i64 0, 8, by kernel_rfl, by omega, by kernel_rfl⟩, Nat.one_pos, Try.underlying26, fun x u hu => by
    have hu : u ∈ [Value.int .i64 x] := hu
    obtain rfl := List.mem_singleton.1 hu
    rfl⟩
end Go.Proofs.Ytbhehicfenkbcaa.PW
