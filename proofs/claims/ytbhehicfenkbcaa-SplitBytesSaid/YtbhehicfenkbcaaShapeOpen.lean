/-
  A config that came in by value.
-/
import Derived.Test.YtbhehicfenkbcaaOpen
import Derived.Test.YtbhehicfenkbcaaShapeMath
namespace Go.Proofs.Ytbhehicfenkbcaa.PW
open Go.ChangeShapes Go.WideShapes Go.ChangeAt Go.RowKit
set_option linter.unusedVariables false
set_option maxRecDepth 100000

theorem cfg_open {H : Type} {enc : TypeId × Value → H} {w : World} {r : Reach} {b0 base : Nat} {held : Bool} {v : Value} {d : DataW H} {p : List MemPlace}
    (hv : Value.okWide Try.prog w r b0 24 v) (h : DataW.Trod enc Try.prog w base (fun _ => true) held 24 v d p) :
    ∃ (id : Nat) (mem chunk rows log heads : Int), v = .agg #[.int .u32 (id : Int), .int .i64 mem, .int .i64 chunk, .int .i64 rows, .int .i64 log, .int .i64 heads] ∧ id < 4294967296 ∧
      (-9223372036854775808 ≤ mem ∧ mem ≤ 9223372036854775807) ∧ (-9223372036854775808 ≤ chunk ∧ chunk ≤ 9223372036854775807) ∧ (-9223372036854775808 ≤ rows ∧ rows ≤ 9223372036854775807) ∧ (-9223372036854775808 ≤ log ∧ log ≤ 9223372036854775807) ∧ (-9223372036854775808 ≤ heads ∧ heads ≤ 9223372036854775807) := by
  obtain ⟨cs, n, rfl, hl, hf⟩ := open_struct Try.underlying24 hv h
  have c6 : Try.prog.cellsOf 24 = 6 := by kernel_rfl
  have c1 : Try.prog.cellsOf 3 = 1 := by kernel_rfl
  have c2 : Try.prog.cellsOf 22 = 1 := by kernel_rfl
  obtain ⟨v0, v1, v2, v3, v4, v5, rfl⟩ := list6 (hl.trans c6)
  obtain ⟨y0, g0⟩ := hf 0 _ rfl
  obtain ⟨y1, g1⟩ := hf 1 _ rfl
  obtain ⟨y2, g2⟩ := hf 2 _ rfl
  obtain ⟨y3, g3⟩ := hf 3 _ rfl
  obtain ⟨y4, g4⟩ := hf 4 _ rfl
  obtain ⟨y5, g5⟩ := hf 5 _ rfl
  simp [c1, c2] at g0 g1 g2 g3 g4 g5
  obtain ⟨z0, e0, _, w0⟩ := DataW.trod_int Try.underlying22 g0
  obtain ⟨z1, e1, _, w1⟩ := DataW.trod_int Try.underlying3 g1
  obtain ⟨z2, e2, _, w2⟩ := DataW.trod_int Try.underlying3 g2
  obtain ⟨z3, e3, _, w3⟩ := DataW.trod_int Try.underlying3 g3
  obtain ⟨z4, e4, _, w4⟩ := DataW.trod_int Try.underlying3 g4
  obtain ⟨z5, e5, _, w5⟩ := DataW.trod_int Try.underlying3 g5
  simp only [List.cons.injEq, and_true] at e0 e1 e2 e3 e4 e5
  subst e0 e1 e2 e3 e4 e5
  have b0 := bounds_u32 w0
  obtain ⟨k, rfl⟩ := Int.eq_ofNat_of_zero_le b0.1
  have b1 := bounds_i64 w1
  have b2 := bounds_i64 w2
  have b3 := bounds_i64 w3
  have b4 := bounds_i64 w4
  have b5 := bounds_i64 w5
  exact ⟨k, z1, z2, z3, z4, z5, rfl, by omega, b1, b2, b3, b4, b5⟩
end Go.Proofs.Ytbhehicfenkbcaa.PW
