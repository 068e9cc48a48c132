/-
  A request that came in by value.
-/
import Derived.Test.YtbhehicfenkbcaaOpen
import Derived.Test.YtbhehicfenkbcaaKinds
namespace Go.Proofs.Ytbhehicfenkbcaa.PW
open Go.ChangeShapes Go.WideShapes Go.ChangeAt Go.RowKit
set_option linter.unusedVariables false
set_option maxRecDepth 100000

theorem list4 {α : Type} {l : List α} (h : l.length = 4) : ∃ a b c d, l = [a, b, c, d] := by
  match l, h with
  | [a, b, c, d], _ => exact ⟨a, b, c, d, rfl⟩
theorem Rd.len_le {B : Nat} {w : World} {a : Option Addr} {len cap : Nat} {l : List Nat} (h : Rd B w a len cap l) : len ≤ 9223372036854775807 := by
  have h1 := h.long; have h2 := h.fits; have h3 := h.small; unfold maxLen at h3; omega
/-- What a datum of a slice of bytes tells. -/
theorem rdb_open {H : Type} {enc : TypeId × Value → H} {w : World} {base : Nat} {held : Bool} {fuel : Nat} {cs : List Value} {x : DataW H × List MemPlace}
    (h : DataW.trod enc Try.prog w base (fun _ => true) held fuel 30 cs = some x) : ∃ a len cap l, cs = [.slice a len cap] ∧ Rd w.heap.size w a len cap l := by
  rcases open_ints Try.underlying30 Try.underlying5 (by kernel_rfl) h with ⟨hcs, _⟩ | ⟨x, l, c, zs, hcs, _, hl, hm, hz, _, hcell, hwz⟩
  · obtain ⟨l, hr⟩ := rd_of_row (w := w) (zs := []) (.inl ⟨rfl, rfl, rfl, rfl⟩)
    exact ⟨none, 0, 0, l, hcs, hr⟩
  · obtain ⟨m, hr⟩ := rd_of_row (w := w) (zs := zs) (.inr ⟨_, rfl, hl, hm, by simpa using hz, hcell, hwz⟩)
    exact ⟨_, _, _, m, hcs, hr⟩
theorem ask_open {H : Type} {enc : TypeId × Value → H} {w : World} {r : Reach} {b0 base : Nat} {held : Bool} {v : Value} {d : DataW H} {p : List MemPlace}
    (hv : Value.okWide Try.prog w r b0 32 v) (h : DataW.Trod enc Try.prog w base (fun _ => true) held 32 v d p) :
    ∃ (k : Nat) (at_ many : Int) (da : Option Addr) (dn dc : Nat) (l : List Nat), v = .agg #[.int .u8 (k : Int), .int .i64 at_, .int .i64 many, .slice da dn dc] ∧ k < 256 ∧ Rd w.heap.size w da dn dc l := by
  obtain ⟨cs, n, rfl, hl, hf⟩ := open_struct Try.underlying32 hv h
  have c4 : Try.prog.cellsOf 32 = 4 := by kernel_rfl
  have c1 : Try.prog.cellsOf 3 = 1 := by kernel_rfl
  have c2 : Try.prog.cellsOf 5 = 1 := by kernel_rfl
  have c3 : Try.prog.cellsOf 30 = 1 := by kernel_rfl
  obtain ⟨v0, v1, v2, v3, rfl⟩ := list4 (hl.trans c4)
  obtain ⟨y0, g0⟩ := hf 0 _ rfl
  obtain ⟨y1, g1⟩ := hf 1 _ rfl
  obtain ⟨y2, g2⟩ := hf 2 _ rfl
  obtain ⟨y3, g3⟩ := hf 3 _ rfl
  simp [c1, c2, c3] at g0 g1 g2 g3
  obtain ⟨z0, e0, _, w0⟩ := DataW.trod_int Try.underlying5 g0
  obtain ⟨z1, e1, _, w1⟩ := DataW.trod_int Try.underlying3 g1
  obtain ⟨z2, e2, _, w2⟩ := DataW.trod_int Try.underlying3 g2
  obtain ⟨a, len, cap, m, e3, rd⟩ := rdb_open g3
  simp only [List.cons.injEq, and_true] at e0 e1 e2 e3
  subst e0 e1 e2 e3
  have b0 := bounds_u8 w0
  obtain ⟨k, rfl⟩ := Int.eq_ofNat_of_zero_le b0.1
  exact ⟨k, z1, z2, a, len, cap, m, rfl, by omega, rd⟩
end Go.Proofs.Ytbhehicfenkbcaa.PW
