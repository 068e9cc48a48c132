/-
  A device that came in, and steps that came in: what a datum tells. No function of the program is named.
-/
import Derived.Test.YtnhfkfihlkbkfaaDisks
import Derived.Deep.SlicePairs
import Derived.Lib.SmallJoins
import Derived.WalkKit
import Derived.ProofKit
import Derived.OpenShut
namespace Go.Proofs.Ytnhfkfihlkbkfaa.PW
open Go.ChangeShapes Go.WideShapes Go.ChangeAt Go.RowKit
open DK (Dv)
set_option linter.unusedVariables false
set_option maxRecDepth 100000

theorem rd_open {H : Type} {enc : TypeId × Value → H} {w : World} {base : Nat} {held : Bool} {fuel : Nat} {v : Value} {x : DataW H × List MemPlace}
    (h : DataW.trod enc Try.prog w base (fun _ => true) held fuel 31 [v] = some x) : ∃ a len cap l, v = .slice a len cap ∧ Rd w.heap.size w a len cap l := by
  rcases open_ints Try.underlying31 Try.underlying5 (by kernel_rfl) h with ⟨hcs, _⟩ | ⟨x, l, c, zs, hcs, _, hl, hm, hz, _, hcell, hwz⟩
  · simp at hcs
    subst hcs
    obtain ⟨l, hl⟩ := rd_of_row (w := w) (zs := []) (.inl ⟨rfl, rfl, rfl, rfl⟩)
    exact ⟨none, 0, 0, l, rfl, hl⟩
  · simp at hcs
    subst hcs
    obtain ⟨l', hl'⟩ := rd_of_row (w := w) (zs := zs) (.inr ⟨_, rfl, hl, hm, by simpa using hz, hcell, hwz⟩)
    exact ⟨_, _, _, l', rfl, hl'⟩

theorem rws_open {H : Type} {enc : TypeId × Value → H} {w : World} {base : Nat} {held : Bool} {fuel : Nat} {cs : List Value} {x : DataW H × List MemPlace}
    (h : DataW.trod enc Try.prog w base (fun _ => true) held fuel 35 cs = some x) : ∃ a len cap K, cs = [.slice a len cap] ∧ Rws w.heap.size w a len cap K := by
  rcases Deep.open_slice_pairs Try.underlying35 Try.underlying64 (by kernel_rfl) rfl rfl (by kernel_rfl) (by kernel_rfl) h with ⟨hcs, _⟩ | ⟨a, len, cap, m, n, V0, V1, D0, D1, P0, P1, hcs, _, hl, hm, hmm, _, hx⟩
  · exact ⟨none, 0, 0, [], hcs, rws_nil _ _⟩
  · have hmc : m = cap := by simpa using hmm
    have each : ∀ r, r < len → ∃ y : Wr, V0 r = .int .i64 y.n ∧ y.h.val = V1 r ∧ y.h.Rd w.heap.size w := by
      intro r hr
      obtain ⟨_, _, h0, h1⟩ := hx r (by omega)
      obtain ⟨z, hz, _, _⟩ := DataW.trod_int Try.underlying3 h0
      obtain ⟨xa, xn, xc, xl, hv, hr⟩ := rd_open h1
      simp only [List.cons.injEq, and_true] at hz
      exact ⟨⟨z, ⟨xa, xn, xc, xl⟩⟩, hz, hv.symm, hr⟩
    obtain ⟨y, hy⟩ := Deep.choose_lt each
    refine ⟨some a, len, cap, (List.range len).map y, hcs, ⟨by simp, by simpa using hl, hm, (fun h => nomatch h), fun hne => ?_, fun z hz => ?_⟩⟩
    · have hlen : 0 < len := by
        rcases Nat.eq_zero_or_pos len with h0 | h0
        · subst h0; simp at hne
        · exact h0
      obtain ⟨b, off, spot⟩ := a
      have hc0 := (hx 0 (by omega)).1
      have hspot : spot = none := by simpa [Addr.add] using World.cell?_spot hc0
      subst hspot
      refine ⟨b, off, rfl, World.block_lt_of_cell? _ _ hc0, fun i hi => ?_⟩
      have hi' : i < len := by simpa using hi
      have hc := hx i (by omega)
      have ea : ∀ j, (⟨b, off, none⟩ : Addr).add j = ⟨b, off + j, none⟩ := fun j => by unfold Addr.add; split <;> simp_all
      have h0 := hc.1
      have h1 := hc.2.1
      rw [ea] at h0 h1
      have hg : ((List.range len).map y).getD i Wr.nil = y i := by simp [List.getD, hi']
      rw [hg, h0, (hy i hi').1, (hy i hi').2.1]
      exact ⟨rfl, by rw [← h1]; rfl⟩
    · obtain ⟨i, hi, rfl⟩ := List.mem_map.1 hz
      exact (hy i (List.mem_range.1 hi)).2.2

theorem dev_open {H : Type} {enc : TypeId × Value → H} {w : World} {r : Reach} {b0 base : Nat} {held : Bool} {v : Value} {d : DataW H} {p : List MemPlace}
    (hv : Value.okWide Try.prog w r b0 37 v) (h : DataW.Trod enc Try.prog w base (fun _ => true) held 37 v d p) :
    ∃ a n c a' n' c' D, v = .agg #[.slice a n c, .slice a' n' c', .bool D.dead] ∧ DevAt w.heap.size w a n c a' n' c' D := by
  obtain ⟨v0, v1, v2, y0, y1, y2, k, rfl, _, _, h0, h1, h2⟩ := Go.Joins.open_agg3 Try.underlying37 (by kernel_rfl) (by kernel_rfl) hv h
  obtain ⟨a, n, c, L, e0, r0⟩ := rds_open h0
  obtain ⟨a', n', c', K, e1, r1⟩ := rws_open h1
  obtain ⟨dd, e2, _⟩ := DataW.trod_bool Try.underlying4 h2
  simp only [List.cons.injEq, and_true] at e0 e1 e2
  subst e0 e1 e2
  exact ⟨a, n, c, a', n', c', ⟨lists L, wlist K, dd⟩, rfl, ⟨L, K, r0, r1, rfl, rfl⟩⟩
end Go.Proofs.Ytnhfkfihlkbkfaa.PW
