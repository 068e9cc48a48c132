/-
  An array of four bytes that came in: for the frame.
-/
import Derived.Test.YtjdcnajppjamgaaBase
import Derived.RegionTactic
import Derived.ChangeKeysEq
import Derived.Lib.SmallJoins
import Derived.ProofKit
namespace Go.Proofs.Ytjdcnajppjamgaa.PW
open Go.RowKit
set_option linter.unusedVariables false
set_option maxRecDepth 100000

/-- An array of four bytes that came in. -/
theorem open_arr4 {H : Type} {enc : TypeId × Value → H} {W : World} {r : Reach} {b0 base : Nat} {spare : Nat → Bool} {held : Bool} {v : Value} {d : DataW H} {p : List MemPlace}
    (hv : Value.okWide Try.prog W r b0 40 v) (h : DataW.Trod enc Try.prog W base spare held 40 v d p) :
    ∃ x y z u : Nat, x < 256 ∧ y < 256 ∧ z < 256 ∧ u < 256 ∧ v = .agg #[.int .u8 x, .int .u8 y, .int .u8 z, .int .u8 u] := by
  simp only [Value.okWide, Try.underlying40] at hv
  obtain ⟨cs, rfl, hsz, _⟩ := hv
  have hC : Try.prog.cellsOf 40 = 4 := by kernel_rfl
  have hE : Try.prog.cellsOf 5 = 1 := by kernel_rfl
  obtain ⟨c0, c1, c2, c3, rfl⟩ := Joins.array4 (hsz.trans hC)
  obtain ⟨fuel, hf⟩ := h
  obtain ⟨xs, m, _, _, _, hl, hi⟩ := DataW.trod_array Try.underlying40 hf
  rw [hE] at hi
  have one : ∀ (i : Nat) (c : Value), i < 4 → (([c0, c1, c2, c3] : List Value).drop (i * 1)).take 1 = [c] → ∃ n : Nat, n < 256 ∧ c = .int .u8 (n : Int) := by
    intro i c hi4 hc
    have := hi i hi4
    have hcells : (Value.agg #[c0, c1, c2, c3]).cells.toList = [c0, c1, c2, c3] := rfl
    rw [hcells, hc, List.getElem?_eq_getElem (show i < xs.length by omega)] at this
    obtain ⟨n, e, _, hw⟩ := DataW.trod_int Try.underlying5 this
    have hb := bounds_u8 hw
    injection e with e
    exact ⟨n.toNat, by omega, by rw [e, Int.toNat_of_nonneg hb.1]⟩
  obtain ⟨x, hx, rfl⟩ := one 0 c0 (by decide) rfl
  obtain ⟨y, hy, rfl⟩ := one 1 c1 (by decide) rfl
  obtain ⟨z, hz, rfl⟩ := one 2 c2 (by decide) rfl
  obtain ⟨u, hu, rfl⟩ := one 3 c3 (by decide) rfl
  exact ⟨x, y, z, u, hx, hy, hz, hu, rfl⟩

theorem byte_cells : Try.prog.cellsOf 5 = 1 := by kernel_rfl
theorem arr_eq (a b c d : Int) (w : World) : (Op.equalIn 10000 40 (.agg #[.int .u8 a, .int .u8 b, .int .u8 c, .int .u8 d]) (.agg #[.int .u8 0, .int .u8 0, .int .u8 0, .int .u8 0])).run Try.prog w = .ok (a == 0 && (b == 0 && (c == 0 && d == 0))) w := by
  obtain ⟨i, hi, hz0, hz1, hz2⟩ := info_parts byte_info
  rw [run_equalIn_array (d := 9999) (P := Try.prog) w (e := 5) (n := 4) (i := i) _ _ Try.underlying40 hi, byte_cells, show List.range 4 = [0, 1, 2, 3] from rfl]
  have hk : Try.prog.plainKey 5 = true := by kernel_rfl
  have hx : ∀ (X : Array Value) (j : Nat) (v : Value), X[j]? = some v → ∀ w, (part 5 X j).run Try.prog w = .ok v w := fun X j v h w => run_part_plain w hk h
  have a0 := hx #[.int .u8 a, .int .u8 b, .int .u8 c, .int .u8 d] 0 (.int .u8 a) rfl
  have a1 := hx #[.int .u8 a, .int .u8 b, .int .u8 c, .int .u8 d] 1 (.int .u8 b) rfl
  have a2 := hx #[.int .u8 a, .int .u8 b, .int .u8 c, .int .u8 d] 2 (.int .u8 c) rfl
  have a3 := hx #[.int .u8 a, .int .u8 b, .int .u8 c, .int .u8 d] 3 (.int .u8 d) rfl
  have z0 := hx #[.int .u8 0, .int .u8 0, .int .u8 0, .int .u8 0] 0 (.int .u8 0) rfl
  have z1 := hx #[.int .u8 0, .int .u8 0, .int .u8 0, .int .u8 0] 1 (.int .u8 0) rfl
  have z2 := hx #[.int .u8 0, .int .u8 0, .int .u8 0, .int .u8 0] 2 (.int .u8 0) rfl
  have z3 := hx #[.int .u8 0, .int .u8 0, .int .u8 0, .int .u8 0] 3 (.int .u8 0) rfl
  have he : ∀ (x y : Int) (w : World), (Op.equalIn 9999 5 (.int .u8 x) (.int .u8 y)).run Try.prog w = .ok (x == y) w := fun x y w => run_equalIn_int (P := Try.prog) w 9998 5 .u8 .u8 x y Try.underlying5
  simp only [Op.eqItems, Sem.run_bind, Result.andThen_ok, Nat.mul_one, a0, z0, he]
  rcases Bool.eq_false_or_eq_true (a == 0) with ha | ha <;> rcases Bool.eq_false_or_eq_true (b == 0) with hb | hb <;> rcases Bool.eq_false_or_eq_true (c == 0) with hc | hc <;> rcases Bool.eq_false_or_eq_true (d == 0) with hd | hd <;>
    simp only [ha, hb, hc, hd, a1, a2, a3, z1, z2, z3, he, Sem.run_ite, Sem.run_bind, Sem.run_pure, Result.andThen_ok, Bool.not_true, Bool.not_false, if_true, Bool.false_eq_true, if_false, Bool.and_true, Bool.and_false] <;> rfl
end Go.Proofs.Ytjdcnajppjamgaa.PW
