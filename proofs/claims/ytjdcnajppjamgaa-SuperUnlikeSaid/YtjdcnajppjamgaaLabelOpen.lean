/-
  A label that came in by value.
-/
import Derived.Test.YtjdcnajppjamgaaOpen
import Derived.Test.YtjdcnajppjamgaaLabelMath
namespace Go.Proofs.Ytjdcnajppjamgaa.PW
open Go.ChangeShapes Go.WideShapes Go.ChangeAt Go.RowKit
set_option linter.unusedVariables false
set_option maxRecDepth 100000

theorem list10 {α : Type} {l : List α} (h : l.length = 10) : ∃ a b c d e f g i j k, l = [a, b, c, d, e, f, g, i, j, k] := by
  match l, h with
  | [a, b, c, d, e, f, g, i, j, k], _ => exact ⟨a, b, c, d, e, f, g, i, j, k, rfl⟩
theorem lab_open {H : Type} {enc : TypeId × Value → H} {w : World} {r : Reach} {b0 base : Nat} {held : Bool} {v : Value} {d : DataW H} {p : List MemPlace}
    (hv : Value.okWide Try.prog w r b0 43 v) (h : DataW.Trod enc Try.prog w base (fun _ => true) held 43 v d p) :
    ∃ (id ev : Nat) (mem chunk rows log me lost done : Int) (op : Bool), v = .agg #[.int .u32 (id : Int), .int .u32 (ev : Int), .int .i64 mem, .int .i64 chunk, .int .i64 rows, .int .i64 log, .int .i64 me, .int .i64 lost, .int .i64 done, .bool op] ∧ id < 4294967296 ∧ ev < 4294967296 := by
  obtain ⟨cs, n, rfl, hl, hf⟩ := open_struct Try.underlying43 hv h
  have c10 : Try.prog.cellsOf 43 = 10 := by kernel_rfl
  have c1 : Try.prog.cellsOf 3 = 1 := by kernel_rfl
  have c2 : Try.prog.cellsOf 26 = 1 := by kernel_rfl
  have c3 : Try.prog.cellsOf 4 = 1 := by kernel_rfl
  obtain ⟨v0, v1, v2, v3, v4, v5, v6, v7, v8, v9, rfl⟩ := list10 (hl.trans c10)
  obtain ⟨y0, g0⟩ := hf 0 _ rfl
  obtain ⟨y1, g1⟩ := hf 1 _ rfl
  obtain ⟨y2, g2⟩ := hf 2 _ rfl
  obtain ⟨y3, g3⟩ := hf 3 _ rfl
  obtain ⟨y4, g4⟩ := hf 4 _ rfl
  obtain ⟨y5, g5⟩ := hf 5 _ rfl
  obtain ⟨y6, g6⟩ := hf 6 _ rfl
  obtain ⟨y7, g7⟩ := hf 7 _ rfl
  obtain ⟨y8, g8⟩ := hf 8 _ rfl
  obtain ⟨y9, g9⟩ := hf 9 _ rfl
  simp [c1, c2, c3] at g0 g1 g2 g3 g4 g5 g6 g7 g8 g9
  obtain ⟨z0, e0, _, w0⟩ := DataW.trod_int Try.underlying26 g0
  obtain ⟨z1, e1, _, w1⟩ := DataW.trod_int Try.underlying26 g1
  obtain ⟨z2, e2, _, w2⟩ := DataW.trod_int Try.underlying3 g2
  obtain ⟨z3, e3, _, w3⟩ := DataW.trod_int Try.underlying3 g3
  obtain ⟨z4, e4, _, w4⟩ := DataW.trod_int Try.underlying3 g4
  obtain ⟨z5, e5, _, w5⟩ := DataW.trod_int Try.underlying3 g5
  obtain ⟨z6, e6, _, w6⟩ := DataW.trod_int Try.underlying3 g6
  obtain ⟨z7, e7, _, w7⟩ := DataW.trod_int Try.underlying3 g7
  obtain ⟨z8, e8, _, w8⟩ := DataW.trod_int Try.underlying3 g8
  obtain ⟨z9, e9, _⟩ := DataW.trod_bool Try.underlying4 g9
  simp only [List.cons.injEq, and_true] at e0 e1 e2 e3 e4 e5 e6 e7 e8 e9
  subst e0 e1 e2 e3 e4 e5 e6 e7 e8 e9
  have b0 := bounds_u32 w0
  have b1 := bounds_u32 w1
  obtain ⟨k, rfl⟩ := Int.eq_ofNat_of_zero_le b0.1
  obtain ⟨m, rfl⟩ := Int.eq_ofNat_of_zero_le b1.1
  exact ⟨k, m, z2, z3, z4, z5, z6, z7, z8, z9, rfl, by omega, by omega⟩
end Go.Proofs.Ytjdcnajppjamgaa.PW
