/-
  A super that came in by value.
-/
import Derived.Test.YtjdcnajppjamgaaOpen
import Derived.Test.YtjdcnajppjamgaaSuperMath
namespace Go.Proofs.Ytjdcnajppjamgaa.PW
open Go.ChangeShapes Go.WideShapes Go.ChangeAt Go.RowKit
set_option linter.unusedVariables false
set_option maxRecDepth 100000

theorem list4' {α : Type} {l : List α} (h : l.length = 4) : ∃ a b c d, l = [a, b, c, d] := by
  match l, h with
  | [a, b, c, d], _ => exact ⟨a, b, c, d, rfl⟩
theorem sup_open {H : Type} {enc : TypeId × Value → H} {w : World} {r : Reach} {b0 base : Nat} {held : Bool} {v : Value} {d : DataW H} {p : List MemPlace}
    (hv : Value.okWide Try.prog w r b0 28 v) (h : DataW.Trod enc Try.prog w base (fun _ => true) held 28 v d p) :
    ∃ (id age seq : Nat) (tail : Int), v = .agg #[.int .u32 (id : Int), .int .u32 (age : Int), .int .u32 (seq : Int), .int .i64 tail] ∧ id < 4294967296 ∧ age < 4294967296 ∧ seq < 4294967296 := by
  obtain ⟨cs, n, rfl, hl, hf⟩ := open_struct Try.underlying28 hv h
  have c4 : Try.prog.cellsOf 28 = 4 := by kernel_rfl
  have c1 : Try.prog.cellsOf 3 = 1 := by kernel_rfl
  have c2 : Try.prog.cellsOf 26 = 1 := by kernel_rfl
  obtain ⟨v0, v1, v2, v3, rfl⟩ := list4' (hl.trans c4)
  obtain ⟨y0, g0⟩ := hf 0 _ rfl
  obtain ⟨y1, g1⟩ := hf 1 _ rfl
  obtain ⟨y2, g2⟩ := hf 2 _ rfl
  obtain ⟨y3, g3⟩ := hf 3 _ rfl
  simp [c1, c2] at g0 g1 g2 g3
  obtain ⟨z0, e0, _, w0⟩ := DataW.trod_int Try.underlying26 g0
  obtain ⟨z1, e1, _, w1⟩ := DataW.trod_int Try.underlying26 g1
  obtain ⟨z2, e2, _, w2⟩ := DataW.trod_int Try.underlying26 g2
  obtain ⟨z3, e3, _, w3⟩ := DataW.trod_int Try.underlying3 g3
  simp only [List.cons.injEq, and_true] at e0 e1 e2 e3
  subst e0 e1 e2 e3
  have b0 := bounds_u32 w0
  have b1 := bounds_u32 w1
  have b2 := bounds_u32 w2
  obtain ⟨k, rfl⟩ := Int.eq_ofNat_of_zero_le b0.1
  obtain ⟨m, rfl⟩ := Int.eq_ofNat_of_zero_le b1.1
  obtain ⟨o, rfl⟩ := Int.eq_ofNat_of_zero_le b2.1
  exact ⟨k, m, o, z3, rfl, by omega, by omega, by omega⟩
end Go.Proofs.Ytjdcnajppjamgaa.PW
