/-
  Steps that came in (a list of structs of three bytes): what a datum tells.
-/
import Derived.Test.YtnhfkfihlkbkfaaDiskOpen
namespace Go.Proofs.Ytnhfkfihlkbkfaa.PW
open Go.ChangeShapes Go.WideShapes Go.ChangeAt Go.RowKit
set_option linter.unusedVariables false
set_option maxRecDepth 100000

/-- A slice of steps that reads as the list L, in a block below B. -/
structure OpsAt (B : Nat) (w : World) (a : Option Addr) (len : Nat) (L : List (Nat × Nat × Nat)) : Prop where
  long : len = L.length
  small : len ≤ maxLen
  cells : 0 < len → ∃ b off, a = some ⟨b, off, none⟩ ∧ b < B ∧ ∀ i, i < len → ∃ x y z : Nat, L.getD i (0, 0, 0) = (x, y, z) ∧ x < 256 ∧ y < 256 ∧ z < 256 ∧
    w.cell? ⟨b, off + i * 3, none⟩ = some (.int .u8 (x : Int)) ∧ w.cell? ⟨b, off + i * 3 + 1, none⟩ = some (.int .u8 (y : Int)) ∧ w.cell? ⟨b, off + i * 3 + 2, none⟩ = some (.int .u8 (z : Int))
theorem OpsAt.here {w w' : World} {a : Option Addr} {len : Nat} {L : List (Nat × Nat × Nat)} (h : OpsAt w.heap.size w a len L) (hb : Below w.heap.size w w') : OpsAt w'.heap.size w' a len L :=
  ⟨h.long, h.small, fun h0 => by
    obtain ⟨b, off, e, hB, hc⟩ := h.cells h0
    refine ⟨b, off, e, Nat.lt_of_lt_of_le hB hb.size, fun i hi => ?_⟩
    obtain ⟨x, y, z, e1, e2, e3, e4, c1, c2, c3⟩ := hc i hi
    exact ⟨x, y, z, e1, e2, e3, e4, by rw [hb.cell (p := ⟨b, off + i * 3, none⟩) hB]; exact c1, by rw [hb.cell (p := ⟨b, off + i * 3 + 1, none⟩) hB]; exact c2, by rw [hb.cell (p := ⟨b, off + i * 3 + 2, none⟩) hB]; exact c3⟩⟩

theorem ops_open {H : Type} {enc : TypeId × Value → H} {w : World} {base : Nat} {held : Bool} {fuel : Nat} {cs : List Value} {x : DataW H × List MemPlace}
    (h : DataW.trod enc Try.prog w base (fun _ => true) held fuel 68 cs = some x) : ∃ a len cap L, cs = [.slice a len cap] ∧ OpsAt w.heap.size w a len L := by
  have ce : Try.prog.cellsOf 72 = 3 := by kernel_rfl
  have c8 : Try.prog.cellsOf 5 = 1 := by kernel_rfl
  rcases Deep.open_slice Try.underlying68 h with ⟨hcs, _⟩ | ⟨a, len, cap, m, n, D, Pl, hcs, _, hl, hm, hmm, _, hx⟩
  · exact ⟨none, 0, 0, [], hcs, ⟨rfl, by unfold maxLen; decide, fun h => absurd h (Nat.lt_irrefl 0)⟩⟩
  · have hmc : m = cap := by simpa using hmm
    have each : ∀ r, r < len → ∃ y : Nat × Nat × Nat, y.1 < 256 ∧ y.2.1 < 256 ∧ y.2.2 < 256 ∧ w.cell? (a.add (r * 3)) = some (.int .u8 (y.1 : Int)) ∧ w.cell? (a.add (r * 3 + 1)) = some (.int .u8 (y.2.1 : Int)) ∧ w.cell? (a.add (r * 3 + 2)) = some (.int .u8 (y.2.2 : Int)) := by
      intro r hr
      obtain ⟨cs', h1, h2⟩ := hx r (by omega)
      rw [ce] at h1
      obtain ⟨_, hlen, hcell⟩ := World.cells?_some h1
      obtain ⟨y0, y1, y2, k, _, _, g0, g1, g2⟩ := Deep.trod_struct3 Try.underlying72 h2
      match cs', hlen with
      | [v0, v1, v2], _ =>
        simp [c8] at g0 g1 g2
        have e0 := hcell 0 (by omega)
        have e1 := hcell 1 (by omega)
        have e2 := hcell 2 (by omega)
        rw [Deep.add_add] at e0 e1 e2
        obtain ⟨z0, q0, _, w0⟩ := DataW.trod_int Try.underlying5 g0
        obtain ⟨z1, q1, _, w1⟩ := DataW.trod_int Try.underlying5 g1
        obtain ⟨z2, q2, _, w2⟩ := DataW.trod_int Try.underlying5 g2
        have b0 := bounds_u8 w0
        have b1 := bounds_u8 w1
        have b2 := bounds_u8 w2
        simp only [List.cons.injEq, and_true] at q0 q1 q2
        subst q0 q1 q2
        refine ⟨(z0.toNat, z1.toNat, z2.toNat), by show z0.toNat < 256; omega, by show z1.toNat < 256; omega, by show z2.toNat < 256; omega, ?_, ?_, ?_⟩
        · show _ = some (Value.int IntKind.u8 (z0.toNat : Int)); rw [Int.toNat_of_nonneg b0.1]; simpa using e0
        · show _ = some (Value.int IntKind.u8 (z1.toNat : Int)); rw [Int.toNat_of_nonneg b1.1]; simpa using e1
        · show _ = some (Value.int IntKind.u8 (z2.toNat : Int)); rw [Int.toNat_of_nonneg b2.1]; simpa using e2
    obtain ⟨y, hy⟩ := Deep.choose_lt each
    refine ⟨some a, len, cap, (List.range len).map y, hcs, ⟨by simp, by omega, fun h0 => ?_⟩⟩
    obtain ⟨b, off, spot⟩ := a
    have hc0 := (hy 0 h0).2.2.2.1
    have hspot : spot = none := by simpa [Addr.add] using World.cell?_spot hc0
    subst hspot
    refine ⟨b, off, rfl, World.block_lt_of_cell? _ _ hc0, fun i hi => ?_⟩
    have ea : ∀ j, (⟨b, off, none⟩ : Addr).add j = ⟨b, off + j, none⟩ := fun j => by unfold Addr.add; split <;> simp_all
    obtain ⟨h1, h2, h3, h4, h5, h6⟩ := hy i hi
    rw [ea] at h4 h5 h6
    exact ⟨(y i).1, (y i).2.1, (y i).2.2, by simp [List.getD, hi], h1, h2, h3, h4, h5, h6⟩
end Go.Proofs.Ytnhfkfihlkbkfaa.PW
