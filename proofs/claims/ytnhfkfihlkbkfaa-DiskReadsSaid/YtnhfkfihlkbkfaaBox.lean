/-
  A variable that lies in memory (a struct by value, a captured one): a block of its cells. Nothing here names a function of the program.
-/
import Derived.Test.YtnhfkfihlkbkfaaBase
namespace Go.Proofs.Ytnhfkfihlkbkfaa.PW
open Go.RowKit
set_option linter.unusedVariables false
set_option maxRecDepth 100000

/-- Block g holds just these cells. -/
def Bx (w : World) (g : Nat) (cs : List Value) : Prop := ∃ t, w.heap[g]? = some (.cells cs.toArray t (0, 0))
theorem Bx.new (w : World) (cs : List Value) (t : TypeId) : Bx (w.alloc (.cells cs.toArray t)) w.heap.size cs := ⟨t, heap_alloc_new _ _⟩
theorem Bx.lt {w : World} {g : Nat} {cs : List Value} (h : Bx w g cs) : g < w.heap.size := by
  obtain ⟨t, h⟩ := h
  rcases Nat.lt_or_ge g w.heap.size with hlt | hge
  · exact hlt
  · rw [Array.getElem?_eq_none hge] at h; cases h
theorem Bx.cell {w : World} {g : Nat} {cs : List Value} (h : Bx w g cs) (i : Nat) : w.cell? ⟨g, i, none⟩ = cs[i]? := by
  obtain ⟨t, h⟩ := h
  rw [cell_of_row w g _ _ _ _ h]
  simp
theorem Bx.frozen {w : World} {g : Nat} {cs : List Value} (h : Bx w g cs) (i : Nat) : w.frozen? ⟨g, i, none⟩ = false := by
  obtain ⟨t, h⟩ := h
  exact frozen_of_row w g i _ _ h
theorem Bx.below {B : Nat} {w w' : World} {g : Nat} {cs : List Value} (h : Bx w g cs) (hb : Below B w w') (hg : g < B) : Bx w' g cs := by
  obtain ⟨t, h⟩ := h
  exact ⟨t, by rw [hb.block g hg, h]⟩
theorem Bx.here {w w' : World} {g : Nat} {cs : List Value} (h : Bx w g cs) (hb : Below w.heap.size w w') : Bx w' g cs := h.below hb h.lt
theorem Bx.alloc {w : World} {g : Nat} {cs : List Value} (h : Bx w g cs) (o : Obj) : Bx (w.alloc o) g cs := h.below ((Below.refl w.heap.size w).alloc (Nat.le_refl _) o) h.lt
theorem Bx.drew {w : World} {g : Nat} {cs : List Value} (h : Bx w g cs) : Bx w.drew g cs := h
theorem Bx.set {w : World} {g : Nat} {cs : List Value} (h : Bx w g cs) (i : Nat) (v : Value) : Bx (w.setCell ⟨g, i, none⟩ v) g (cs.set i v) := by
  obtain ⟨t, h⟩ := h
  refine ⟨t, ?_⟩
  rw [heap_setCell_same w g i _ _ _ h]
  simp
theorem Bx.other {w : World} {g : Nat} {cs : List Value} (h : Bx w g cs) (p : Addr) (hp : p.block ≠ g) (v : Value) : Bx (w.setCell p v) g cs := by
  obtain ⟨t, h⟩ := h
  exact ⟨t, by rw [Below.heap_setCell _ _ _ _ (fun e => hp e.symm)]; exact h⟩
theorem Bx.grown {w w' : World} {g : Nat} {cs : List Value} {row : Option Nat} (h : Bx w g cs) (hg : w.grownBy w' row) (hne : row ≠ some g) : Bx w' g cs := by
  have hlt := h.lt
  obtain ⟨t, h⟩ := h
  exact ⟨t, by rw [hg.block g hlt (fun e => hne e.symm), h]⟩
/-- A struct of three fields: what its cells hold. -/
theorem Bx.three {w : World} {g : Nat} {x y z : Value} (h : Bx w g [x, y, z]) : w.cell? ⟨g, 0, none⟩ = some x ∧ w.cell? ⟨g, 1, none⟩ = some y ∧ w.cell? ⟨g, 2, none⟩ = some z := ⟨h.cell 0, h.cell 1, h.cell 2⟩
theorem Bx.two {w : World} {g : Nat} {x y : Value} (h : Bx w g [x, y]) : w.cell? ⟨g, 0, none⟩ = some x ∧ w.cell? ⟨g, 1, none⟩ = some y := ⟨h.cell 0, h.cell 1⟩
theorem Bx.one {w : World} {g : Nat} {x : Value} (h : Bx w g [x]) : w.cell? ⟨g, 0, none⟩ = some x := h.cell 0
end Go.Proofs.Ytnhfkfihlkbkfaa.PW
