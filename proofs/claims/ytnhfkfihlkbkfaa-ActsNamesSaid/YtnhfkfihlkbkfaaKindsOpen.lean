/-
  Lists of structs that came in: what a datum tells of them. Nothing here names a function of the program.
-/
import Derived.Test.YtnhfkfihlkbkfaaKinds
namespace Go.Proofs.Ytnhfkfihlkbkfaa.PW
open Go.ChangeShapes Go.WideShapes Go.ChangeAt Go.RowKit
open DK (Dv)
set_option linter.unusedVariables false
set_option maxRecDepth 100000

/-- A slice of structs of a kind. -/
theorem rg_open {α : Type} (K : Kind α) {S T : TypeId} (und : Try.prog.underlying S = some (.slice T)) (hm : Try.prog.cellsOf T = K.m) {H : Type} {enc : TypeId × Value → H} {w : World} {base : Nat} {held : Bool}
    (one : ∀ {n : Nat} {cs : List Value} {x : DataW H × List MemPlace}, cs.length = K.m → DataW.trod enc Try.prog w base (fun _ => true) held n T cs = some x → ∃ y, cs = K.cells y ∧ K.inn 0 w.heap.size w y)
    (hp : 0 < K.m) {fuel : Nat} {cs : List Value} {x : DataW H × List MemPlace} (h : DataW.trod enc Try.prog w base (fun _ => true) held fuel S cs = some x) :
    ∃ a len cap L, cs = [.slice a len cap] ∧ Rg K 0 w.heap.size w a len cap L := by
  rcases Deep.open_slice und h with ⟨hcs, _⟩ | ⟨a, len, cap, m, n, D, Pl, hcs, _, hl, hmx, hmm, _, hx⟩
  · exact ⟨none, 0, 0, [], hcs, rg_nil _ _ _ _⟩
  · have hmc : m = cap := by simpa using hmm
    have each : ∀ r, r < len → ∃ y : α, (∀ j, j < K.m → w.cell? (a.add (r * K.m + j)) = (K.cells y)[j]?) ∧ K.inn 0 w.heap.size w y := by
      intro r hr
      obtain ⟨cs', h1, h2⟩ := hx r (by omega)
      rw [hm] at h1
      obtain ⟨_, hlen, hcell⟩ := World.cells?_some h1
      obtain ⟨y, rfl, hy⟩ := one hlen h2
      refine ⟨y, fun j hj => ?_, hy⟩
      have := hcell j hj
      rw [Deep.add_add] at this
      exact this
    obtain ⟨y, hy⟩ := @Deep.choose_lt α ⟨K.nil⟩ _ _ each
    refine ⟨some a, len, cap, (List.range len).map y, hcs, ⟨by simp, by simpa using hl, hmx, (fun h => nomatch h), fun hne => ?_, fun z hz => ?_⟩⟩
    · have hlen : 0 < len := by
        rcases Nat.eq_zero_or_pos len with h0 | h0
        · subst h0; simp at hne
        · exact h0
      obtain ⟨b, off, spot⟩ := a
      have hc0 := (hy 0 (by omega)).1 0 hp
      have hsome : ∃ v, (K.cells (y 0))[0]? = some v := by
        have : 0 < (K.cells (y 0)).length := by rw [K.size]; exact hp
        exact ⟨_, List.getElem?_eq_getElem this⟩
      obtain ⟨v, hv⟩ := hsome
      rw [hv] at hc0
      have hspot : spot = none := by simpa [Addr.add] using World.cell?_spot hc0
      subst hspot
      have hlt := World.block_lt_of_cell? _ _ hc0
      rw [show ((⟨b, off, none⟩ : Addr).add (0 * K.m + 0)).block = b from by unfold Addr.add; split <;> simp_all] at hlt
      refine ⟨b, off, rfl, Nat.zero_le _, hlt, fun i hi j hj => ?_⟩
      have hi' : i < len := by simpa using hi
      have ea : ∀ j, (⟨b, off, none⟩ : Addr).add j = ⟨b, off + j, none⟩ := fun j => by unfold Addr.add; split <;> simp_all
      have h0 := (hy i hi').1 j hj
      rw [ea, ← Nat.add_assoc] at h0
      have hg : ((List.range len).map y).getD i K.nil = y i := by simp [List.getD, hi']
      rw [hg]; exact h0
    · obtain ⟨i, hi, rfl⟩ := List.mem_map.1 hz
      exact (hy i (List.mem_range.1 hi)).2

theorem devs_open {H : Type} {enc : TypeId × Value → H} {w : World} {base : Nat} {held : Bool} {fuel : Nat} {cs : List Value} {x : DataW H × List MemPlace}
    (h : DataW.trod enc Try.prog w base (fun _ => true) held fuel 22 cs = some x) : ∃ a len cap L, cs = [.slice a len cap] ∧ Rg kDn 0 w.heap.size w a len cap L := by
  have c1 : Try.prog.cellsOf 34 = 1 := by kernel_rfl
  have c2 : Try.prog.cellsOf 35 = 1 := by kernel_rfl
  have c3 : Try.prog.cellsOf 4 = 1 := by kernel_rfl
  refine rg_open kDn Try.underlying22 (by kernel_rfl) (fun {n cs x} hlen h => ?_) (by show 0 < 3; omega) h
  obtain ⟨y0, y1, y2, k, _, _, g0, g1, g2⟩ := Deep.trod_struct3 Try.underlying37 h
  match cs, hlen with
  | [v0, v1, v2], _ =>
    simp [c1, c2, c3] at g0 g1 g2
    obtain ⟨a, n, c, L, e0, r0⟩ := rds_open g0
    obtain ⟨a', n', c', K, e1, r1⟩ := rws_open g1
    obtain ⟨dd, e2, _⟩ := DataW.trod_bool Try.underlying4 g2
    simp only [List.cons.injEq, and_true] at e0 e1 e2
    subst e0 e1 e2
    exact ⟨⟨a, n, c, a', n', c', ⟨lists L, wlist K, dd⟩⟩, rfl, DevAt.inn ⟨L, K, r0, r1, rfl, rfl⟩⟩

theorem trod_struct4 {P : Program} {H : Type} {enc : TypeId × Value → H} {w : World} {base : Nat} {spare : Nat → Bool} {held : Bool} {t : TypeId} {f0 f1 f2 f3 : Field} {fuel : Nat} {cs : List Value} {x : DataW H × List MemPlace} (ht : P.underlying t = some (.struct #[f0, f1, f2, f3])) (h : DataW.trod enc P w base spare held fuel t cs = some x) :
    ∃ y0 y1 y2 y3 n, DataW.trod enc P w base spare held n f0.type ((cs.drop f0.offset).take (P.cellsOf f0.type)) = some y0 ∧ DataW.trod enc P w base spare held n f1.type ((cs.drop f1.offset).take (P.cellsOf f1.type)) = some y1 ∧
      DataW.trod enc P w base spare held n f2.type ((cs.drop f2.offset).take (P.cellsOf f2.type)) = some y2 ∧ DataW.trod enc P w base spare held n f3.type ((cs.drop f3.offset).take (P.cellsOf f3.type)) = some y3 := by
  obtain ⟨xs, n, _, rfl, hl, hlen, hf⟩ := DataW.trod_struct ht h
  match xs, hlen with
  | [y0, y1, y2, y3], _ => exact ⟨y0, y1, y2, y3, n, by simpa using hf 0 f0 rfl, by simpa using hf 1 f1 rfl, by simpa using hf 2 f2 rfl, by simpa using hf 3 f3 rfl⟩

theorem acts_open {H : Type} {enc : TypeId × Value → H} {w : World} {base : Nat} {held : Bool} {fuel : Nat} {cs : List Value} {x : DataW H × List MemPlace}
    (h : DataW.trod enc Try.prog w base (fun _ => true) held fuel 27 cs = some x) : ∃ a len cap L, cs = [.slice a len cap] ∧ Rg kAx 0 w.heap.size w a len cap L := by
  have c1 : Try.prog.cellsOf 3 = 1 := by kernel_rfl
  have c2 : Try.prog.cellsOf 5 = 1 := by kernel_rfl
  have c3 : Try.prog.cellsOf 31 = 1 := by kernel_rfl
  refine rg_open kAx Try.underlying27 (by kernel_rfl) (fun {n cs x} hlen h => ?_) (by show 0 < 4; omega) h
  obtain ⟨y0, y1, y2, y3, k, g0, g1, g2, g3⟩ := trod_struct4 Try.underlying33 h
  match cs, hlen with
  | [v0, v1, v2, v3], _ =>
    simp [c1, c2, c3] at g0 g1 g2 g3
    obtain ⟨z0, e0, _, _⟩ := DataW.trod_int Try.underlying3 g0
    obtain ⟨z1, e1, _, w1⟩ := DataW.trod_int Try.underlying5 g1
    obtain ⟨z2, e2, _, _⟩ := DataW.trod_int Try.underlying3 g2
    obtain ⟨a, l, c, m, e3, r3⟩ := rd_open g3
    have b1 := bounds_u8 w1
    obtain ⟨k1, rfl⟩ := Int.eq_ofNat_of_zero_le b1.1
    simp only [List.cons.injEq, and_true] at e0 e1 e2
    subst e0 e1 e2 e3
    exact ⟨⟨z0, k1, z2, ⟨a, l, c, m⟩⟩, rfl, r3.inn, by show k1 < 256; omega⟩

theorem bools_open {H : Type} {enc : TypeId × Value → H} {w : World} {base : Nat} {held : Bool} {fuel : Nat} {cs : List Value} {x : DataW H × List MemPlace}
    (h : DataW.trod enc Try.prog w base (fun _ => true) held fuel 30 cs = some x) : ∃ a len cap L, cs = [.slice a len cap] ∧ Rg kBool 0 w.heap.size w a len cap L := by
  refine rg_open kBool Try.underlying30 (by kernel_rfl) (fun {n cs x} hlen h => ?_) (by show 0 < 1; omega) h
  obtain ⟨b, e, _⟩ := DataW.trod_bool Try.underlying4 h
  exact ⟨b, e, trivial⟩
end Go.Proofs.Ytnhfkfihlkbkfaa.PW
