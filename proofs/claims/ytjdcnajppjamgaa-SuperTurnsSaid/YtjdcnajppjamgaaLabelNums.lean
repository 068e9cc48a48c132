/-
  Layer 9: the program's own list of a label's numbers, and where each is kept.
-/
import Derived.Test.YtjdcnajppjamgaaLabelRefs
import Derived.Test.YtjdcnajppjamgaaLabelParts
import Derived.Shelf.Abstract
namespace Go.Proofs.Ytjdcnajppjamgaa.PW
open Go.RowKit
open LB (Lab)
set_option linter.unusedVariables false
set_option linter.unusedSimpArgs false
set_option maxRecDepth 100000

theorem Bx.eleven {w : World} {g : Nat} {x0 x1 x2 x3 x4 x5 x6 x7 x8 x9 x10 : Value} (h : Bx w g [x0, x1, x2, x3, x4, x5, x6, x7, x8, x9, x10]) : w.cell? ⟨g, 0, none⟩ = some x0 ∧ w.cell? ⟨g, 1, none⟩ = some x1 ∧ w.cell? ⟨g, 2, none⟩ = some x2 ∧ w.cell? ⟨g, 3, none⟩ = some x3 ∧ w.cell? ⟨g, 4, none⟩ = some x4 ∧ w.cell? ⟨g, 5, none⟩ = some x5 ∧ w.cell? ⟨g, 6, none⟩ = some x6 ∧ w.cell? ⟨g, 7, none⟩ = some x7 ∧ w.cell? ⟨g, 8, none⟩ = some x8 ∧ w.cell? ⟨g, 9, none⟩ = some x9 ∧ w.cell? ⟨g, 10, none⟩ = some x10 :=
  ⟨h.cell 0, h.cell 1, h.cell 2, h.cell 3, h.cell 4, h.cell 5, h.cell 6, h.cell 7, h.cell 8, h.cell 9, h.cell 10⟩

/-! ### A label's numbers, and where each is kept -/
theorem lbMake (P : Program) (fn : Fn) (first cap : Array Value) (w : World) : (Instr.makeFunc fn first cap).run P w = .ok (.func fn first cap) w := rfl
def lbFn (k : Nat) : Nat := [40, 41, 42, 43, 44, 45, 46, 47, 48, 49, 50].getD k 0
theorem lbKept0 (g g0 : Nat) (w : World) (hb : Bx w g0 [.pointer (some ⟨g, 0, none⟩)]) :
    Calls Try.prog 40 #[.pointer (some ⟨g0, 0, none⟩)] w fun e w' => e = .returned (.pointer (some ⟨g, 0, none⟩)) ∧ Below w.heap.size w w' := by
  have c0 := hb.one
  go_enter Try.func40, Try.ntmps40
  go_wp2
  go_ret
  exact ⟨rfl, Below.refl _ _⟩
theorem lbKept1 (g g0 : Nat) (w : World) (hb : Bx w g0 [.pointer (some ⟨g, 0, none⟩)]) :
    Calls Try.prog 41 #[.pointer (some ⟨g0, 0, none⟩)] w fun e w' => e = .returned (.pointer (some ⟨g, 1, none⟩)) ∧ Below w.heap.size w w' := by
  have c0 := hb.one
  go_enter Try.func41, Try.ntmps41
  go_wp2
  go_ret
  exact ⟨rfl, Below.refl _ _⟩
theorem lbKept2 (g g0 : Nat) (w : World) (hb : Bx w g0 [.pointer (some ⟨g, 0, none⟩)]) :
    Calls Try.prog 42 #[.pointer (some ⟨g0, 0, none⟩)] w fun e w' => e = .returned (.pointer (some ⟨g, 2, none⟩)) ∧ Below w.heap.size w w' := by
  have c0 := hb.one
  go_enter Try.func42, Try.ntmps42
  go_wp2
  go_ret
  exact ⟨rfl, Below.refl _ _⟩
theorem lbKept3 (g g0 : Nat) (w : World) (hb : Bx w g0 [.pointer (some ⟨g, 0, none⟩)]) :
    Calls Try.prog 43 #[.pointer (some ⟨g0, 0, none⟩)] w fun e w' => e = .returned (.pointer (some ⟨g, 3, none⟩)) ∧ Below w.heap.size w w' := by
  have c0 := hb.one
  go_enter Try.func43, Try.ntmps43
  go_wp2
  go_ret
  exact ⟨rfl, Below.refl _ _⟩
theorem lbKept4 (g g0 : Nat) (w : World) (hb : Bx w g0 [.pointer (some ⟨g, 0, none⟩)]) :
    Calls Try.prog 44 #[.pointer (some ⟨g0, 0, none⟩)] w fun e w' => e = .returned (.pointer (some ⟨g, 4, none⟩)) ∧ Below w.heap.size w w' := by
  have c0 := hb.one
  go_enter Try.func44, Try.ntmps44
  go_wp2
  go_ret
  exact ⟨rfl, Below.refl _ _⟩
theorem lbKept5 (g g0 : Nat) (w : World) (hb : Bx w g0 [.pointer (some ⟨g, 0, none⟩)]) :
    Calls Try.prog 45 #[.pointer (some ⟨g0, 0, none⟩)] w fun e w' => e = .returned (.pointer (some ⟨g, 5, none⟩)) ∧ Below w.heap.size w w' := by
  have c0 := hb.one
  go_enter Try.func45, Try.ntmps45
  go_wp2
  go_ret
  exact ⟨rfl, Below.refl _ _⟩
theorem lbKept6 (g g0 : Nat) (w : World) (hb : Bx w g0 [.pointer (some ⟨g, 0, none⟩)]) :
    Calls Try.prog 46 #[.pointer (some ⟨g0, 0, none⟩)] w fun e w' => e = .returned (.pointer (some ⟨g, 6, none⟩)) ∧ Below w.heap.size w w' := by
  have c0 := hb.one
  go_enter Try.func46, Try.ntmps46
  go_wp2
  go_ret
  exact ⟨rfl, Below.refl _ _⟩
theorem lbKept7 (g g0 : Nat) (w : World) (hb : Bx w g0 [.pointer (some ⟨g, 0, none⟩)]) :
    Calls Try.prog 47 #[.pointer (some ⟨g0, 0, none⟩)] w fun e w' => e = .returned (.pointer (some ⟨g, 7, none⟩)) ∧ Below w.heap.size w w' := by
  have c0 := hb.one
  go_enter Try.func47, Try.ntmps47
  go_wp2
  go_ret
  exact ⟨rfl, Below.refl _ _⟩
theorem lbKept8 (g g0 : Nat) (w : World) (hb : Bx w g0 [.pointer (some ⟨g, 0, none⟩)]) :
    Calls Try.prog 48 #[.pointer (some ⟨g0, 0, none⟩)] w fun e w' => e = .returned (.pointer (some ⟨g, 8, none⟩)) ∧ Below w.heap.size w w' := by
  have c0 := hb.one
  go_enter Try.func48, Try.ntmps48
  go_wp2
  go_ret
  exact ⟨rfl, Below.refl _ _⟩
theorem lbKept9 (g g0 : Nat) (w : World) (hb : Bx w g0 [.pointer (some ⟨g, 0, none⟩)]) :
    Calls Try.prog 49 #[.pointer (some ⟨g0, 0, none⟩)] w fun e w' => e = .returned (.pointer (some ⟨g, 9, none⟩)) ∧ Below w.heap.size w w' := by
  have c0 := hb.one
  go_enter Try.func49, Try.ntmps49
  go_wp2
  go_ret
  exact ⟨rfl, Below.refl _ _⟩
theorem lbKept10 (g g0 : Nat) (w : World) (hb : Bx w g0 [.pointer (some ⟨g, 0, none⟩)]) :
    Calls Try.prog 50 #[.pointer (some ⟨g0, 0, none⟩)] w fun e w' => e = .returned (.pointer (some ⟨g, 10, none⟩)) ∧ Below w.heap.size w w' := by
  have c0 := hb.one
  go_enter Try.func50, Try.ntmps50
  go_wp2
  go_ret
  exact ⟨rfl, Below.refl _ _⟩
theorem lbEnters (k : Nat) (hk : k < 11) : Enters Try.prog (lbFn k) := by
  have : k = 0 ∨ k = 1 ∨ k = 2 ∨ k = 3 ∨ k = 4 ∨ k = 5 ∨ k = 6 ∨ k = 7 ∨ k = 8 ∨ k = 9 ∨ k = 10 := by omega
  rcases this with rfl | rfl | rfl | rfl | rfl | rfl | rfl | rfl | rfl | rfl | rfl
  · exact enters_of Try.func40 (by kernel_rfl) rfl
  · exact enters_of Try.func41 (by kernel_rfl) rfl
  · exact enters_of Try.func42 (by kernel_rfl) rfl
  · exact enters_of Try.func43 (by kernel_rfl) rfl
  · exact enters_of Try.func44 (by kernel_rfl) rfl
  · exact enters_of Try.func45 (by kernel_rfl) rfl
  · exact enters_of Try.func46 (by kernel_rfl) rfl
  · exact enters_of Try.func47 (by kernel_rfl) rfl
  · exact enters_of Try.func48 (by kernel_rfl) rfl
  · exact enters_of Try.func49 (by kernel_rfl) rfl
  · exact enters_of Try.func50 (by kernel_rfl) rfl
theorem lbKept (g g0 k : Nat) (hk : k < 11) (w : World) (hb : Bx w g0 [.pointer (some ⟨g, 0, none⟩)]) :
    Calls Try.prog (lbFn k) #[.pointer (some ⟨g0, 0, none⟩)] w fun e w' => e = .returned (.pointer (some ⟨g, k, none⟩)) ∧ Below w.heap.size w w' := by
  have : k = 0 ∨ k = 1 ∨ k = 2 ∨ k = 3 ∨ k = 4 ∨ k = 5 ∨ k = 6 ∨ k = 7 ∨ k = 8 ∨ k = 9 ∨ k = 10 := by omega
  rcases this with rfl | rfl | rfl | rfl | rfl | rfl | rfl | rfl | rfl | rfl | rfl
  · exact lbKept0 g g0 w hb
  · exact lbKept1 g g0 w hb
  · exact lbKept2 g g0 w hb
  · exact lbKept3 g g0 w hb
  · exact lbKept4 g g0 w hb
  · exact lbKept5 g g0 w hb
  · exact lbKept6 g g0 w hb
  · exact lbKept7 g g0 w hb
  · exact lbKept8 g g0 w hb
  · exact lbKept9 g g0 w hb
  · exact lbKept10 g g0 w hb
def lbCells (g0 : Nat) : List Value := [.int .i64 0, .int .i64 1, .func (.func 40) #[] #[.pointer (some ⟨g0, 0, none⟩)], .int .i64 1, .int .i64 4, .func (.func 41) #[] #[.pointer (some ⟨g0, 0, none⟩)], .int .i64 5, .int .i64 4, .func (.func 42) #[] #[.pointer (some ⟨g0, 0, none⟩)], .int .i64 9, .int .i64 1, .func (.func 43) #[] #[.pointer (some ⟨g0, 0, none⟩)], .int .i64 10, .int .i64 1, .func (.func 44) #[] #[.pointer (some ⟨g0, 0, none⟩)], .int .i64 11, .int .i64 1, .func (.func 45) #[] #[.pointer (some ⟨g0, 0, none⟩)], .int .i64 12, .int .i64 1, .func (.func 46) #[] #[.pointer (some ⟨g0, 0, none⟩)], .int .i64 13, .int .i64 1, .func (.func 47) #[] #[.pointer (some ⟨g0, 0, none⟩)], .int .i64 14, .int .i64 1, .func (.func 48) #[] #[.pointer (some ⟨g0, 0, none⟩)], .int .i64 15, .int .i64 1, .func (.func 49) #[] #[.pointer (some ⟨g0, 0, none⟩)], .int .i64 16, .int .i64 1, .func (.func 50) #[] #[.pointer (some ⟨g0, 0, none⟩)]]
theorem lbCells_get (g0 k : Nat) (hk : k < 11) : (lbCells g0)[k * 3]? = some (.int .i64 (LB.pAt k : Nat)) ∧ (lbCells g0)[k * 3 + 1]? = some (.int .i64 (LB.pSz k : Nat)) ∧ (lbCells g0)[k * 3 + 2]? = some (.func (.func (lbFn k)) #[] #[.pointer (some ⟨g0, 0, none⟩)]) := by
  have : k = 0 ∨ k = 1 ∨ k = 2 ∨ k = 3 ∨ k = 4 ∨ k = 5 ∨ k = 6 ∨ k = 7 ∨ k = 8 ∨ k = 9 ∨ k = 10 := by omega
  rcases this with rfl | rfl | rfl | rfl | rfl | rfl | rfl | rfl | rfl | rfl | rfl <;> exact ⟨rfl, rfl, rfl⟩
/-- The list of numbers in the world w: the slice's block g1, the pointer's block g0. -/
def NumsAt (w : World) (g g0 g1 : Nat) : Prop := Bx w g0 [.pointer (some ⟨g, 0, none⟩)] ∧ Bx w g1 (lbCells g0)
theorem NumsAt.here {w w' : World} {g g0 g1 : Nat} (h : NumsAt w g g0 g1) (hb : Below w.heap.size w w') : NumsAt w' g g0 g1 := ⟨h.1.here hb, h.2.here hb⟩
set_option maxHeartbeats 2000000 in
theorem lbNumbers_any (g : Nat) (w : World) :
    Calls Try.prog 29 #[.pointer (some ⟨g, 0, none⟩)] w fun e w' => ∃ g0 g1, e = .returned (.slice (some ⟨g1, 0, none⟩) 11 11) ∧ NumsAt w' g g0 g1 ∧ Below w.heap.size w w' := by
  have hm := lbMake Try.prog
  go_enter Try.func29, Try.ntmps29
  go_wp2
  go_ret
  refine ⟨w.heap.size, w.heap.size + 1, ?_, ⟨?_, ?_⟩, ?_⟩
  · simp
  · exact (Bx.new w [.pointer (some ⟨g, 0, none⟩)] _).alloc _
  · have h := Bx.new (w.alloc (.cells #[.pointer (some ⟨g, 0, none⟩)] 83)) (lbCells w.heap.size) 72
    have e : (w.alloc (.cells #[.pointer (some ⟨g, 0, none⟩)] 83)).heap.size = w.heap.size + 1 := by simp
    rw [e] at h
    exact h
  · exact ((Below.refl _ _).alloc (Nat.le_refl _) _).alloc (by simp) _
end Go.Proofs.Ytjdcnajppjamgaa.PW
