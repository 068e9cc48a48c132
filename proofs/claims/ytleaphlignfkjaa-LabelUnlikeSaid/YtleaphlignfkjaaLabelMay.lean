/-
  Contracts of the document's own answers of layer 9.
-/
import Derived.Test.YtleaphlignfkjaaShapeRefs
import Derived.Test.YtleaphlignfkjaaSealRefs
import Derived.Test.YtleaphlignfkjaaLabelMath
namespace Go.Proofs.Ytleaphlignfkjaa.PW
open Go.RowKit
open SK (Cfg)
open LB (Lab)
set_option linter.unusedVariables false
set_option linter.unusedSimpArgs false
set_option maxRecDepth 100000

/-- A label, as it lies in memory. -/
def labC (x : Lab) : List Value := [.int .u32 (x.id : Int), .int .u32 (x.ev : Int), .int .i64 x.mem, .int .i64 x.chunk, .int .i64 x.rows, .int .i64 x.log, .int .i64 x.me, .int .i64 x.lost, .int .i64 x.done, .bool x.op]
def labV (x : Lab) : Value := .agg (labC x).toArray
/-- A struct of ten fields: what its cells hold. -/
theorem Bx.ten {w : World} {g : Nat} {a b c d e f x y z u : Value} (h : Bx w g [a, b, c, d, e, f, x, y, z, u]) : w.cell? ⟨g, 0, none⟩ = some a ∧ w.cell? ⟨g, 1, none⟩ = some b ∧ w.cell? ⟨g, 2, none⟩ = some c ∧ w.cell? ⟨g, 3, none⟩ = some d ∧ w.cell? ⟨g, 4, none⟩ = some e ∧ w.cell? ⟨g, 5, none⟩ = some f ∧ w.cell? ⟨g, 6, none⟩ = some x ∧ w.cell? ⟨g, 7, none⟩ = some y ∧ w.cell? ⟨g, 8, none⟩ = some z ∧ w.cell? ⟨g, 9, none⟩ = some u :=
  ⟨h.cell 0, h.cell 1, h.cell 2, h.cell 3, h.cell 4, h.cell 5, h.cell 6, h.cell 7, h.cell 8, h.cell 9⟩

set_option maxHeartbeats 2000000 in
theorem refLMay_any (id ev : Nat) (mem chunk rows log me lost done : Int) (op : Bool) (w : World) :
    Calls Try.prog 29 #[.agg #[.int .u32 (id : Int), .int .u32 (ev : Int), .int .i64 mem, .int .i64 chunk, .int .i64 rows, .int .i64 log, .int .i64 me, .int .i64 lost, .int .i64 done, .bool op]] w fun e w' => e = .returned (.bool (Lab.may ⟨id, ev, mem, chunk, rows, log, me, lost, done, op⟩)) ∧ Below w.heap.size w w' := by
  have ha1 : Below w.heap.size w (w.alloc (.cells #[.int .u32 (id : Int), .int .u32 (ev : Int), .int .i64 mem, .int .i64 chunk, .int .i64 rows, .int .i64 log, .int .i64 me, .int .i64 lost, .int .i64 done, .bool op] 28)) := (Below.refl _ _).alloc (Nat.le_refl _) _
  have ha2 : Below (w.alloc (.cells #[.int .u32 (id : Int), .int .u32 (ev : Int), .int .i64 mem, .int .i64 chunk, .int .i64 rows, .int .i64 log, .int .i64 me, .int .i64 lost, .int .i64 done, .bool op] 28)).heap.size (w.alloc (.cells #[.int .u32 (id : Int), .int .u32 (ev : Int), .int .i64 mem, .int .i64 chunk, .int .i64 rows, .int .i64 log, .int .i64 me, .int .i64 lost, .int .i64 done, .bool op] 28)) ((w.alloc (.cells #[.int .u32 (id : Int), .int .u32 (ev : Int), .int .i64 mem, .int .i64 chunk, .int .i64 rows, .int .i64 log, .int .i64 me, .int .i64 lost, .int .i64 done, .bool op] 28)).alloc (.cells #[.int .u32 (id : Int), .int .i64 mem, .int .i64 chunk, .int .i64 rows, .int .i64 log, .int .i64 2] 62)) := (Below.refl _ _).alloc (Nat.le_refl _) _
  have B0 : Hid (Below w.heap.size w ((w.alloc (.cells #[.int .u32 (id : Int), .int .u32 (ev : Int), .int .i64 mem, .int .i64 chunk, .int .i64 rows, .int .i64 log, .int .i64 me, .int .i64 lost, .int .i64 done, .bool op] 28)).alloc (.cells #[.int .u32 (id : Int), .int .i64 mem, .int .i64 chunk, .int .i64 rows, .int .i64 log, .int .i64 2] 62))) := thence ha1 ha2 (Nat.le_refl _)
  have BX : Hid (Bx ((w.alloc (.cells #[.int .u32 (id : Int), .int .u32 (ev : Int), .int .i64 mem, .int .i64 chunk, .int .i64 rows, .int .i64 log, .int .i64 me, .int .i64 lost, .int .i64 done, .bool op] 28)).alloc (.cells #[.int .u32 (id : Int), .int .i64 mem, .int .i64 chunk, .int .i64 rows, .int .i64 log, .int .i64 2] 62)) w.heap.size [.int .u32 (id : Int), .int .u32 (ev : Int), .int .i64 mem, .int .i64 chunk, .int .i64 rows, .int .i64 log, .int .i64 me, .int .i64 lost, .int .i64 done, .bool op]) := (Bx.new w [.int .u32 (id : Int), .int .u32 (ev : Int), .int .i64 mem, .int .i64 chunk, .int .i64 rows, .int .i64 log, .int .i64 me, .int .i64 lost, .int .i64 done, .bool op] 28).here ha2
  have BY : Hid (Bx ((w.alloc (.cells #[.int .u32 (id : Int), .int .u32 (ev : Int), .int .i64 mem, .int .i64 chunk, .int .i64 rows, .int .i64 log, .int .i64 me, .int .i64 lost, .int .i64 done, .bool op] 28)).alloc (.cells #[.int .u32 (id : Int), .int .i64 mem, .int .i64 chunk, .int .i64 rows, .int .i64 log, .int .i64 2] 62)) (w.heap.size + 1) [.int .u32 (id : Int), .int .i64 mem, .int .i64 chunk, .int .i64 rows, .int .i64 log, .int .i64 2]) := by
    have h := Bx.new (w.alloc (.cells #[.int .u32 (id : Int), .int .u32 (ev : Int), .int .i64 mem, .int .i64 chunk, .int .i64 rows, .int .i64 log, .int .i64 me, .int .i64 lost, .int .i64 done, .bool op] 28)) [.int .u32 (id : Int), .int .i64 mem, .int .i64 chunk, .int .i64 rows, .int .i64 log, .int .i64 2] 62
    have e : (w.alloc (.cells #[.int .u32 (id : Int), .int .u32 (ev : Int), .int .i64 mem, .int .i64 chunk, .int .i64 rows, .int .i64 log, .int .i64 me, .int .i64 lost, .int .i64 done, .bool op] 28)).heap.size = w.heap.size + 1 := by simp
    rw [e] at h
    exact h
  clear ha1 ha2
  have c0 := (Bx.new w [.int .u32 (id : Int), .int .u32 (ev : Int), .int .i64 mem, .int .i64 chunk, .int .i64 rows, .int .i64 log, .int .i64 me, .int .i64 lost, .int .i64 done, .bool op] 28).cell 0
  clear c0
  cases hc : Cfg.may ⟨id, mem, chunk, rows, log, 2⟩ with
  | false =>
    have hm : Lab.may ⟨id, ev, mem, chunk, rows, log, me, lost, done, op⟩ = false := LB.may_not.2 (fun h => by have := SK.may_iff.2 h.1; rw [show Lab.cfg ⟨id, ev, mem, chunk, rows, log, me, lost, done, op⟩ = ⟨id, mem, chunk, rows, log, 2⟩ from rfl, hc] at this; cases this)
    rw [hm]
    clear hm
    have CM : Hid (∀ w1, Calls Try.prog 51 #[.agg #[.int .u32 (id : Int), .int .i64 mem, .int .i64 chunk, .int .i64 rows, .int .i64 log, .int .i64 2]] w1 fun e w' => e = .returned (.bool false) ∧ Below w1.heap.size w1 w') := fun w1 => by have := refMay_any id mem chunk rows log 2 w1; rw [hc] at this; exact this
    go_enter Try.func29, Try.ntmps29
    go_wp2_with fail
    generalize (w.alloc (.cells #[.int .u32 (id : Int), .int .u32 (ev : Int), .int .i64 mem, .int .i64 chunk, .int .i64 rows, .int .i64 log, .int .i64 me, .int .i64 lost, .int .i64 done, .bool op] 28)).alloc (.cells #[.int .u32 (id : Int), .int .i64 mem, .int .i64 chunk, .int .i64 rows, .int .i64 log, .int .i64 2] 62) = W0 at *
    have hg := BX.out.lt
    have hy := BY.out.lt
    obtain ⟨c0, c1, c2, c3, c4, c5, c6, c7, c8, c9⟩ := BX.out.ten
    obtain ⟨y0, y1, y2, y3, y4, y5⟩ := BY.out.six
    (with_reducible refine (CM.out _).mono ?_)
    rintro e w1 ⟨rfl, b1⟩
    have B1 := Lib.hid (thence B0.out b1 (Nat.le_refl _))
    replace BX := Lib.hid (BX.out.here b1)
    replace BY := Lib.hid (BY.out.here b1)
    clear b1 c0 c1 c2 c3 c4 c5 c6 c7 c8 c9 y0 y1 y2 y3 y4 y5 hg hy
    have hg := BX.out.lt
    have hy := BY.out.lt
    obtain ⟨c0, c1, c2, c3, c4, c5, c6, c7, c8, c9⟩ := BX.out.ten
    obtain ⟨y0, y1, y2, y3, y4, y5⟩ := BY.out.six
    go_wp2_with fail
    go_ret
    exact ⟨rfl, B1.out⟩
  | true =>
    have hp := SK.may_iff.1 hc
    have HP := Lib.hid hp
    obtain ⟨⟨k0, k1⟩, ⟨k2, k3⟩, ⟨k4, k5⟩, -, -⟩ := hp
    dsimp only at k0 k1 k2 k3 k4 k5
    by_cases g1 : 2147483648 < ev
    · have i1 : (2147483648 : Int) < ev := by omega
      have hm : Lab.may ⟨id, ev, mem, chunk, rows, log, me, lost, done, op⟩ = false := LB.may_not.2 (fun h => by have := h.2.1; dsimp only at this; omega)
      rw [hm]
      clear hm
      have CM : Hid (∀ w1, Calls Try.prog 51 #[.agg #[.int .u32 (id : Int), .int .i64 mem, .int .i64 chunk, .int .i64 rows, .int .i64 log, .int .i64 2]] w1 fun e w' => e = .returned (.bool true) ∧ Below w1.heap.size w1 w') := fun w1 => by have := refMay_any id mem chunk rows log 2 w1; rw [hc] at this; exact this
      go_enter Try.func29, Try.ntmps29
      go_wp2_with fail
      generalize (w.alloc (.cells #[.int .u32 (id : Int), .int .u32 (ev : Int), .int .i64 mem, .int .i64 chunk, .int .i64 rows, .int .i64 log, .int .i64 me, .int .i64 lost, .int .i64 done, .bool op] 28)).alloc (.cells #[.int .u32 (id : Int), .int .i64 mem, .int .i64 chunk, .int .i64 rows, .int .i64 log, .int .i64 2] 62) = W0 at *
      have hg := BX.out.lt
      have hy := BY.out.lt
      obtain ⟨c0, c1, c2, c3, c4, c5, c6, c7, c8, c9⟩ := BX.out.ten
      obtain ⟨y0, y1, y2, y3, y4, y5⟩ := BY.out.six
      (with_reducible refine (CM.out _).mono ?_)
      rintro e w1 ⟨rfl, b1⟩
      have B1 := Lib.hid (thence B0.out b1 (Nat.le_refl _))
      replace BX := Lib.hid (BX.out.here b1)
      replace BY := Lib.hid (BY.out.here b1)
      clear b1 c0 c1 c2 c3 c4 c5 c6 c7 c8 c9 y0 y1 y2 y3 y4 y5 hg hy
      have hg := BX.out.lt
      have hy := BY.out.lt
      obtain ⟨c0, c1, c2, c3, c4, c5, c6, c7, c8, c9⟩ := BX.out.ten
      obtain ⟨y0, y1, y2, y3, y4, y5⟩ := BY.out.six
      go_wp2_with fail
      go_ret
      exact ⟨rfl, B1.out⟩
    by_cases g2 : me < 0
    · have i1 : ¬ (2147483648 : Int) < ev := by omega
      have hm : Lab.may ⟨id, ev, mem, chunk, rows, log, me, lost, done, op⟩ = false := LB.may_not.2 (fun h => by have := h.2.2.1; dsimp only at this; omega)
      rw [hm]
      clear hm
      have CM : Hid (∀ w1, Calls Try.prog 51 #[.agg #[.int .u32 (id : Int), .int .i64 mem, .int .i64 chunk, .int .i64 rows, .int .i64 log, .int .i64 2]] w1 fun e w' => e = .returned (.bool true) ∧ Below w1.heap.size w1 w') := fun w1 => by have := refMay_any id mem chunk rows log 2 w1; rw [hc] at this; exact this
      go_enter Try.func29, Try.ntmps29
      go_wp2_with fail
      generalize (w.alloc (.cells #[.int .u32 (id : Int), .int .u32 (ev : Int), .int .i64 mem, .int .i64 chunk, .int .i64 rows, .int .i64 log, .int .i64 me, .int .i64 lost, .int .i64 done, .bool op] 28)).alloc (.cells #[.int .u32 (id : Int), .int .i64 mem, .int .i64 chunk, .int .i64 rows, .int .i64 log, .int .i64 2] 62) = W0 at *
      have hg := BX.out.lt
      have hy := BY.out.lt
      obtain ⟨c0, c1, c2, c3, c4, c5, c6, c7, c8, c9⟩ := BX.out.ten
      obtain ⟨y0, y1, y2, y3, y4, y5⟩ := BY.out.six
      (with_reducible refine (CM.out _).mono ?_)
      rintro e w1 ⟨rfl, b1⟩
      have B1 := Lib.hid (thence B0.out b1 (Nat.le_refl _))
      replace BX := Lib.hid (BX.out.here b1)
      replace BY := Lib.hid (BY.out.here b1)
      clear b1 c0 c1 c2 c3 c4 c5 c6 c7 c8 c9 y0 y1 y2 y3 y4 y5 hg hy
      have hg := BX.out.lt
      have hy := BY.out.lt
      obtain ⟨c0, c1, c2, c3, c4, c5, c6, c7, c8, c9⟩ := BX.out.ten
      obtain ⟨y0, y1, y2, y3, y4, y5⟩ := BY.out.six
      go_wp2_with fail
      go_ret
      exact ⟨rfl, B1.out⟩
    by_cases g3 : mem ≤ me
    · have i1 : ¬ (2147483648 : Int) < ev := by omega
      have hm : Lab.may ⟨id, ev, mem, chunk, rows, log, me, lost, done, op⟩ = false := LB.may_not.2 (fun h => by have := h.2.2.2.1; dsimp only at this; omega)
      rw [hm]
      clear hm
      have CM : Hid (∀ w1, Calls Try.prog 51 #[.agg #[.int .u32 (id : Int), .int .i64 mem, .int .i64 chunk, .int .i64 rows, .int .i64 log, .int .i64 2]] w1 fun e w' => e = .returned (.bool true) ∧ Below w1.heap.size w1 w') := fun w1 => by have := refMay_any id mem chunk rows log 2 w1; rw [hc] at this; exact this
      go_enter Try.func29, Try.ntmps29
      go_wp2_with fail
      generalize (w.alloc (.cells #[.int .u32 (id : Int), .int .u32 (ev : Int), .int .i64 mem, .int .i64 chunk, .int .i64 rows, .int .i64 log, .int .i64 me, .int .i64 lost, .int .i64 done, .bool op] 28)).alloc (.cells #[.int .u32 (id : Int), .int .i64 mem, .int .i64 chunk, .int .i64 rows, .int .i64 log, .int .i64 2] 62) = W0 at *
      have hg := BX.out.lt
      have hy := BY.out.lt
      obtain ⟨c0, c1, c2, c3, c4, c5, c6, c7, c8, c9⟩ := BX.out.ten
      obtain ⟨y0, y1, y2, y3, y4, y5⟩ := BY.out.six
      (with_reducible refine (CM.out _).mono ?_)
      rintro e w1 ⟨rfl, b1⟩
      have B1 := Lib.hid (thence B0.out b1 (Nat.le_refl _))
      replace BX := Lib.hid (BX.out.here b1)
      replace BY := Lib.hid (BY.out.here b1)
      clear b1 c0 c1 c2 c3 c4 c5 c6 c7 c8 c9 y0 y1 y2 y3 y4 y5 hg hy
      have hg := BX.out.lt
      have hy := BY.out.lt
      obtain ⟨c0, c1, c2, c3, c4, c5, c6, c7, c8, c9⟩ := BX.out.ten
      obtain ⟨y0, y1, y2, y3, y4, y5⟩ := BY.out.six
      go_wp2_with fail
      go_ret
      exact ⟨rfl, B1.out⟩
    have i1 : ¬ (2147483648 : Int) < ev := by omega
    by_cases g4 : lost = -1
    · by_cases g5 : done = 0
      · rw [(LB.may_iff (L := ⟨id, ev, mem, chunk, rows, log, me, lost, done, op⟩)).2 ⟨SK.may_iff.1 hc, by dsimp only; omega, by dsimp only; omega, by dsimp only; omega, .inl ⟨g4, g5⟩⟩]
        have hn : (lost == -1) = true := by simp [g4]
        have hd : (done == 0) = true := by simp [g5]
        clear g4 g5
        have CM : Hid (∀ w1, Calls Try.prog 51 #[.agg #[.int .u32 (id : Int), .int .i64 mem, .int .i64 chunk, .int .i64 rows, .int .i64 log, .int .i64 2]] w1 fun e w' => e = .returned (.bool true) ∧ Below w1.heap.size w1 w') := fun w1 => by have := refMay_any id mem chunk rows log 2 w1; rw [hc] at this; exact this
        go_enter Try.func29, Try.ntmps29
        go_wp2_with fail
        generalize (w.alloc (.cells #[.int .u32 (id : Int), .int .u32 (ev : Int), .int .i64 mem, .int .i64 chunk, .int .i64 rows, .int .i64 log, .int .i64 me, .int .i64 lost, .int .i64 done, .bool op] 28)).alloc (.cells #[.int .u32 (id : Int), .int .i64 mem, .int .i64 chunk, .int .i64 rows, .int .i64 log, .int .i64 2] 62) = W0 at *
        have hg := BX.out.lt
        have hy := BY.out.lt
        obtain ⟨c0, c1, c2, c3, c4, c5, c6, c7, c8, c9⟩ := BX.out.ten
        obtain ⟨y0, y1, y2, y3, y4, y5⟩ := BY.out.six
        (with_reducible refine (CM.out _).mono ?_)
        rintro e w1 ⟨rfl, b1⟩
        have B1 := Lib.hid (thence B0.out b1 (Nat.le_refl _))
        replace BX := Lib.hid (BX.out.here b1)
        replace BY := Lib.hid (BY.out.here b1)
        clear b1 c0 c1 c2 c3 c4 c5 c6 c7 c8 c9 y0 y1 y2 y3 y4 y5 hg hy
        have hg := BX.out.lt
        have hy := BY.out.lt
        obtain ⟨c0, c1, c2, c3, c4, c5, c6, c7, c8, c9⟩ := BX.out.ten
        obtain ⟨y0, y1, y2, y3, y4, y5⟩ := BY.out.six
        go_wp2_with fail
        go_ret
        exact ⟨rfl, B1.out⟩
      · have hd : (done == 0) = false := beq_eq_false_iff_ne.2 g5
        have hm : Lab.may ⟨id, ev, mem, chunk, rows, log, me, lost, done, op⟩ = false := LB.may_not.2 (fun h => by rcases h.2.2.2.2 with h | h <;> dsimp only at h <;> omega)
        rw [hm]
        clear hm
        have hn : (lost == -1) = true := by simp [g4]
        clear g4 g5
        have CM : Hid (∀ w1, Calls Try.prog 51 #[.agg #[.int .u32 (id : Int), .int .i64 mem, .int .i64 chunk, .int .i64 rows, .int .i64 log, .int .i64 2]] w1 fun e w' => e = .returned (.bool true) ∧ Below w1.heap.size w1 w') := fun w1 => by have := refMay_any id mem chunk rows log 2 w1; rw [hc] at this; exact this
        go_enter Try.func29, Try.ntmps29
        go_wp2_with fail
        generalize (w.alloc (.cells #[.int .u32 (id : Int), .int .u32 (ev : Int), .int .i64 mem, .int .i64 chunk, .int .i64 rows, .int .i64 log, .int .i64 me, .int .i64 lost, .int .i64 done, .bool op] 28)).alloc (.cells #[.int .u32 (id : Int), .int .i64 mem, .int .i64 chunk, .int .i64 rows, .int .i64 log, .int .i64 2] 62) = W0 at *
        have hg := BX.out.lt
        have hy := BY.out.lt
        obtain ⟨c0, c1, c2, c3, c4, c5, c6, c7, c8, c9⟩ := BX.out.ten
        obtain ⟨y0, y1, y2, y3, y4, y5⟩ := BY.out.six
        (with_reducible refine (CM.out _).mono ?_)
        rintro e w1 ⟨rfl, b1⟩
        have B1 := Lib.hid (thence B0.out b1 (Nat.le_refl _))
        replace BX := Lib.hid (BX.out.here b1)
        replace BY := Lib.hid (BY.out.here b1)
        clear b1 c0 c1 c2 c3 c4 c5 c6 c7 c8 c9 y0 y1 y2 y3 y4 y5 hg hy
        have hg := BX.out.lt
        have hy := BY.out.lt
        obtain ⟨c0, c1, c2, c3, c4, c5, c6, c7, c8, c9⟩ := BX.out.ten
        obtain ⟨y0, y1, y2, y3, y4, y5⟩ := BY.out.six
        go_wp2_with fail
        go_ret
        exact ⟨rfl, B1.out⟩
    have hn : (lost == -1) = false := beq_eq_false_iff_ne.2 g4
    have CS : Hid (∀ w1, Calls Try.prog 52 #[.agg #[.int .u32 (id : Int), .int .i64 mem, .int .i64 chunk, .int .i64 rows, .int .i64 log, .int .i64 2]] w1 fun e w' => e = .returned (.int .i64 (chunk * rows)) ∧ Below w1.heap.size w1 w') := fun w1 => refStripes_any id mem chunk rows log 2 w1 HP.out
    by_cases g5 : 0 ≤ lost
    case neg =>
      have f1 : decide (0 ≤ lost) = false := by simp; omega
      have hm : Lab.may ⟨id, ev, mem, chunk, rows, log, me, lost, done, op⟩ = false := LB.may_not.2 (fun h => by rcases h.2.2.2.2 with h | h <;> dsimp only at h <;> omega)
      rw [hm]
      clear hm
      have CM : Hid (∀ w1, Calls Try.prog 51 #[.agg #[.int .u32 (id : Int), .int .i64 mem, .int .i64 chunk, .int .i64 rows, .int .i64 log, .int .i64 2]] w1 fun e w' => e = .returned (.bool true) ∧ Below w1.heap.size w1 w') := fun w1 => by have := refMay_any id mem chunk rows log 2 w1; rw [hc] at this; exact this
      go_enter Try.func29, Try.ntmps29
      go_wp2_with fail
      generalize (w.alloc (.cells #[.int .u32 (id : Int), .int .u32 (ev : Int), .int .i64 mem, .int .i64 chunk, .int .i64 rows, .int .i64 log, .int .i64 me, .int .i64 lost, .int .i64 done, .bool op] 28)).alloc (.cells #[.int .u32 (id : Int), .int .i64 mem, .int .i64 chunk, .int .i64 rows, .int .i64 log, .int .i64 2] 62) = W0 at *
      have hg := BX.out.lt
      have hy := BY.out.lt
      obtain ⟨c0, c1, c2, c3, c4, c5, c6, c7, c8, c9⟩ := BX.out.ten
      obtain ⟨y0, y1, y2, y3, y4, y5⟩ := BY.out.six
      (with_reducible refine (CM.out _).mono ?_)
      rintro e w1 ⟨rfl, b1⟩
      have B1 := Lib.hid (thence B0.out b1 (Nat.le_refl _))
      replace BX := Lib.hid (BX.out.here b1)
      replace BY := Lib.hid (BY.out.here b1)
      clear b1 c0 c1 c2 c3 c4 c5 c6 c7 c8 c9 y0 y1 y2 y3 y4 y5 hg hy
      have hg := BX.out.lt
      have hy := BY.out.lt
      obtain ⟨c0, c1, c2, c3, c4, c5, c6, c7, c8, c9⟩ := BX.out.ten
      obtain ⟨y0, y1, y2, y3, y4, y5⟩ := BY.out.six
      go_wp2_with fail
      refine wp_region_noPanic ?_
      refine PX.wp_region_y (fun w' => Below w1.heap.size w1 w') [22] (by kernel_rfl) (Below.refl _ _).drew (fun hHeld => ?_)
      refine PX.wpAnyY_one (i := 0) (o := ?_) (by kernel_rfl) ?_ (fun Kq hKq => ?_)
      rotate_left
      · simp only [List.getElem?_toArray, List.getElem?_cons_succ, List.getElem?_cons_zero]; rfl
      go_simp
      refine hKq.out _ _ (hHeld) (fun hHeld => ?_)
      clear hKq Kq
      (try simp only [Act.put, List.setIfInBounds_toArray, List.set_cons_zero, List.set_cons_succ])
      refine PX.wpAnyY_take (i := 1) (oi := ?_) (v := ?_) ?_ (by kernel_rfl) (by kernel_rfl) (by kernel_rfl) (by kernel_rfl) (by kernel_rfl) (fun _ _ _ h => h) (Or.inl ⟨?_, ?_⟩) (by assumption) ?_
      rotate_left 2
      · simp only [List.getElem?_toArray, List.getElem?_cons_succ, List.getElem?_cons_zero]; rfl
      · rfl
      · intro w hSw; (try dsimp only at hSw); have hC := fun (b o : Nat) (h : b < w1.heap.size) => Below.cell hSw (p := ⟨b, o, none⟩) h; go_simp <;> with_reducible rfl
      (try simp only [Act.put, List.setIfInBounds_toArray, List.set_cons_zero, List.set_cons_succ])
      refine PX.wpAnyY_one (i := 2) (o := ?_) (by kernel_rfl) ?_ (fun Kq hKq => ?_)
      rotate_left
      · simp only [List.getElem?_toArray, List.getElem?_cons_succ, List.getElem?_cons_zero]; rfl
      go_simp
      refine hKq.out _ _ (hHeld) (fun hHeld => ?_)
      clear hKq Kq
      (try simp only [Act.put, List.setIfInBounds_toArray, List.set_cons_zero, List.set_cons_succ])
      refine PX.wpAnyY_one (i := 3) (o := ?_) (by kernel_rfl) ?_ (fun Kq hKq => ?_)
      rotate_left
      · simp only [List.getElem?_toArray, List.getElem?_cons_succ, List.getElem?_cons_zero]; rfl
      go_simp
      refine hKq.out _ _ (hHeld) (fun hHeld => ?_)
      clear hKq Kq
      (try simp only [Act.put, List.setIfInBounds_toArray, List.set_cons_zero, List.set_cons_succ])
      refine PX.wpAnyY_take (i := 4) (oi := ?_) (v := undef) ?_ (by kernel_rfl) (by kernel_rfl) (by kernel_rfl) (by kernel_rfl) (by kernel_rfl) (fun _ _ _ h => h) (Or.inr ⟨?_, rfl⟩) (by assumption) ?_
      rotate_left
      · simp only [List.getElem?_toArray, List.getElem?_cons_succ, List.getElem?_cons_zero]; rfl
      · rfl
      (try simp only [Act.put, List.setIfInBounds_toArray, List.set_cons_zero, List.set_cons_succ])
      refine PX.wpAnyY_take (i := 5) (oi := ?_) (v := undef) ?_ (by kernel_rfl) (by kernel_rfl) (by kernel_rfl) (by kernel_rfl) (by kernel_rfl) (fun _ _ _ h => h) (Or.inr ⟨?_, rfl⟩) (by assumption) ?_
      rotate_left
      · simp only [List.getElem?_toArray, List.getElem?_cons_succ, List.getElem?_cons_zero]; rfl
      · rfl
      (try simp only [Act.put, List.setIfInBounds_toArray, List.set_cons_zero, List.set_cons_succ])
      refine PX.wpAnyY_one (i := 6) (o := ?_) (by kernel_rfl) ?_ (fun Kq hKq => ?_)
      rotate_left
      · simp only [List.getElem?_toArray, List.getElem?_cons_succ, List.getElem?_cons_zero]; rfl
      go_simp
      refine hKq.out _ _ (hHeld) (fun hHeld => ?_)
      clear hKq Kq
      (try simp only [Act.put, List.setIfInBounds_toArray, List.set_cons_zero, List.set_cons_succ])
      refine PX.wpAnyY_one (i := 7) (o := ?_) (by kernel_rfl) ?_ (fun Kq hKq => ?_)
      rotate_left
      · simp only [List.getElem?_toArray, List.getElem?_cons_succ, List.getElem?_cons_zero]; rfl
      go_simp
      refine hKq.out _ _ (hHeld) (fun hHeld => ?_)
      clear hKq Kq
      (try simp only [Act.put, List.setIfInBounds_toArray, List.set_cons_zero, List.set_cons_succ])
      refine PX.wpAnyY_one (i := 8) (o := ?_) (by kernel_rfl) ?_ (fun Kq hKq => ?_)
      rotate_left
      · simp only [List.getElem?_toArray, List.getElem?_cons_succ, List.getElem?_cons_zero]; rfl
      go_simp
      refine hKq.out _ _ (hHeld) (fun hHeld => ?_)
      clear hKq Kq
      (try simp only [Act.put, List.setIfInBounds_toArray, List.set_cons_zero, List.set_cons_succ])
      refine PX.wpAnyY_one (i := 9) (o := ?_) (by kernel_rfl) ?_ (fun Kq hKq => ?_)
      rotate_left
      · simp only [List.getElem?_toArray, List.getElem?_cons_succ, List.getElem?_cons_zero]; rfl
      go_simp
      refine hKq.out _ _ (hHeld) (fun hHeld => ?_)
      clear hKq Kq
      (try simp only [Act.put, List.setIfInBounds_toArray, List.set_cons_zero, List.set_cons_succ])
      refine PX.wpAnyY_one (i := 10) (o := ?_) (by kernel_rfl) ?_ (fun Kq hKq => ?_)
      rotate_left
      · simp only [List.getElem?_toArray, List.getElem?_cons_succ, List.getElem?_cons_zero]; rfl
      go_simp
      refine hKq.out _ _ (hHeld) (fun hHeld => ?_)
      clear hKq Kq
      (try simp only [Act.put, List.setIfInBounds_toArray, List.set_cons_zero, List.set_cons_succ])
      refine PX.wpAnyY_one (i := 11) (o := ?_) (by kernel_rfl) ?_ (fun Kq hKq => ?_)
      rotate_left
      · simp only [List.getElem?_toArray, List.getElem?_cons_succ, List.getElem?_cons_zero]; rfl
      go_simp
      refine hKq.out _ _ (hHeld) (fun hHeld => ?_)
      clear hKq Kq
      (try simp only [Act.put, List.setIfInBounds_toArray, List.set_cons_zero, List.set_cons_succ])
      refine PX.wpAnyY_one (i := 12) (o := ?_) (by kernel_rfl) ?_ (fun Kq hKq => ?_)
      rotate_left
      · simp only [List.getElem?_toArray, List.getElem?_cons_succ, List.getElem?_cons_zero]; rfl
      go_simp
      refine hKq.out _ _ (hHeld) (fun hHeld => ?_)
      clear hKq Kq
      (try simp only [Act.put, List.setIfInBounds_toArray, List.set_cons_zero, List.set_cons_succ])
      refine PX.wpAnyY_one (i := 13) (o := ?_) (by kernel_rfl) ?_ (fun Kq hKq => ?_)
      rotate_left
      · simp only [List.getElem?_toArray, List.getElem?_cons_succ, List.getElem?_cons_zero]; rfl
      go_simp
      refine hKq.out _ _ (hHeld) (fun hHeld => ?_)
      clear hKq Kq
      (try simp only [Act.put, List.setIfInBounds_toArray, List.set_cons_zero, List.set_cons_succ])
      refine PX.wpAnyY_one (i := 14) (o := ?_) (by kernel_rfl) ?_ (fun Kq hKq => ?_)
      rotate_left
      · simp only [List.getElem?_toArray, List.getElem?_cons_succ, List.getElem?_cons_zero]; rfl
      go_simp
      refine hKq.out _ _ (hHeld) (fun hHeld => ?_)
      clear hKq Kq
      (try simp only [Act.put, List.setIfInBounds_toArray, List.set_cons_zero, List.set_cons_succ])
      refine PX.wpAnyY_one (i := 15) (o := ?_) (by kernel_rfl) ?_ (fun Kq hKq => ?_)
      rotate_left
      · simp only [List.getElem?_toArray, List.getElem?_cons_succ, List.getElem?_cons_zero]; rfl
      go_simp
      refine hKq.out _ _ (hHeld) (fun hHeld => ?_)
      clear hKq Kq
      (try simp only [Act.put, List.setIfInBounds_toArray, List.set_cons_zero, List.set_cons_succ])
      refine PX.wpAnyY_take (i := 16) (oi := ?_) (v := undef) ?_ (by kernel_rfl) (by kernel_rfl) (by kernel_rfl) (by kernel_rfl) (by kernel_rfl) (fun _ _ _ h => h) (Or.inr ⟨?_, rfl⟩) (by assumption) ?_
      rotate_left
      · simp only [List.getElem?_toArray, List.getElem?_cons_succ, List.getElem?_cons_zero]; rfl
      · rfl
      (try simp only [Act.put, List.setIfInBounds_toArray, List.set_cons_zero, List.set_cons_succ])
      refine PX.wpAnyY_take (i := 17) (oi := ?_) (v := undef) ?_ (by kernel_rfl) (by kernel_rfl) (by kernel_rfl) (by kernel_rfl) (by kernel_rfl) (fun _ _ _ h => h) (Or.inr ⟨?_, rfl⟩) (by assumption) ?_
      rotate_left
      · simp only [List.getElem?_toArray, List.getElem?_cons_succ, List.getElem?_cons_zero]; rfl
      · rfl
      (try simp only [Act.put, List.setIfInBounds_toArray, List.set_cons_zero, List.set_cons_succ])
      refine PX.wpAnyY_one (i := 18) (o := ?_) (by kernel_rfl) ?_ (fun Kq hKq => ?_)
      rotate_left
      · simp only [List.getElem?_toArray, List.getElem?_cons_succ, List.getElem?_cons_zero]; rfl
      go_simp
      refine hKq.out _ _ (hHeld) (fun hHeld => ?_)
      clear hKq Kq
      (try simp only [Act.put, List.setIfInBounds_toArray, List.set_cons_zero, List.set_cons_succ])
      refine PX.wpAnyY_one (i := 19) (o := ?_) (by kernel_rfl) ?_ (fun Kq hKq => ?_)
      rotate_left
      · simp only [List.getElem?_toArray, List.getElem?_cons_succ, List.getElem?_cons_zero]; rfl
      go_simp
      refine hKq.out _ _ (hHeld) (fun hHeld => ?_)
      clear hKq Kq
      (try simp only [Act.put, List.setIfInBounds_toArray, List.set_cons_zero, List.set_cons_succ])
      refine PX.wpAnyY_one (i := 20) (o := ?_) (by kernel_rfl) ?_ (fun Kq hKq => ?_)
      rotate_left
      · simp only [List.getElem?_toArray, List.getElem?_cons_succ, List.getElem?_cons_zero]; rfl
      go_simp
      refine hKq.out _ _ (hHeld) (fun hHeld => ?_)
      clear hKq Kq
      (try simp only [Act.put, List.setIfInBounds_toArray, List.set_cons_zero, List.set_cons_succ])
      refine PX.wpAnyY_one (i := 21) (o := ?_) (by kernel_rfl) ?_ (fun Kq hKq => ?_)
      rotate_left
      · simp only [List.getElem?_toArray, List.getElem?_cons_succ, List.getElem?_cons_zero]; rfl
      go_simp
      refine hKq.out _ _ (hHeld) (fun hHeld => ?_)
      clear hKq Kq
      (try simp only [Act.put, List.setIfInBounds_toArray, List.set_cons_zero, List.set_cons_succ])
      refine PX.wpAnyY_free (i := 22) (o := ?_) (by kernel_rfl) (by kernel_rfl) ?_ (fun Kq hKq => ?_)
      rotate_left
      · simp only [List.getElem?_toArray, List.getElem?_cons_succ, List.getElem?_cons_zero]; rfl
      go_simp
      refine hKq.out _ _ ?_
      clear hKq Kq
      (try simp only [Act.put, List.setIfInBounds_toArray, List.set_cons_zero, List.set_cons_succ])
      refine PX.wpAnyY_done (by kernel_rfl) ?_ _
      refine NoPanic.normal ?_
      have HE := Lib.hid (thence B1.out hHeld (Nat.le_refl _))
      clear hHeld
      go_wp2_with fail
      go_ret
      exact ⟨rfl, HE.out⟩
    have f1 : decide (0 ≤ lost) = true := by simp; omega
    by_cases g6 : lost < mem
    case neg =>
      have f2 : decide (lost < mem) = false := by simp; omega
      have hm : Lab.may ⟨id, ev, mem, chunk, rows, log, me, lost, done, op⟩ = false := LB.may_not.2 (fun h => by rcases h.2.2.2.2 with h | h <;> dsimp only at h <;> omega)
      rw [hm]
      clear hm
      have CM : Hid (∀ w1, Calls Try.prog 51 #[.agg #[.int .u32 (id : Int), .int .i64 mem, .int .i64 chunk, .int .i64 rows, .int .i64 log, .int .i64 2]] w1 fun e w' => e = .returned (.bool true) ∧ Below w1.heap.size w1 w') := fun w1 => by have := refMay_any id mem chunk rows log 2 w1; rw [hc] at this; exact this
      go_enter Try.func29, Try.ntmps29
      go_wp2_with fail
      generalize (w.alloc (.cells #[.int .u32 (id : Int), .int .u32 (ev : Int), .int .i64 mem, .int .i64 chunk, .int .i64 rows, .int .i64 log, .int .i64 me, .int .i64 lost, .int .i64 done, .bool op] 28)).alloc (.cells #[.int .u32 (id : Int), .int .i64 mem, .int .i64 chunk, .int .i64 rows, .int .i64 log, .int .i64 2] 62) = W0 at *
      have hg := BX.out.lt
      have hy := BY.out.lt
      obtain ⟨c0, c1, c2, c3, c4, c5, c6, c7, c8, c9⟩ := BX.out.ten
      obtain ⟨y0, y1, y2, y3, y4, y5⟩ := BY.out.six
      (with_reducible refine (CM.out _).mono ?_)
      rintro e w1 ⟨rfl, b1⟩
      have B1 := Lib.hid (thence B0.out b1 (Nat.le_refl _))
      replace BX := Lib.hid (BX.out.here b1)
      replace BY := Lib.hid (BY.out.here b1)
      clear b1 c0 c1 c2 c3 c4 c5 c6 c7 c8 c9 y0 y1 y2 y3 y4 y5 hg hy
      have hg := BX.out.lt
      have hy := BY.out.lt
      obtain ⟨c0, c1, c2, c3, c4, c5, c6, c7, c8, c9⟩ := BX.out.ten
      obtain ⟨y0, y1, y2, y3, y4, y5⟩ := BY.out.six
      go_wp2_with fail
      refine wp_region_noPanic ?_
      refine PX.wp_region_y (fun w' => Below w1.heap.size w1 w') [22] (by kernel_rfl) (Below.refl _ _).drew (fun hHeld => ?_)
      refine PX.wpAnyY_one (i := 0) (o := ?_) (by kernel_rfl) ?_ (fun Kq hKq => ?_)
      rotate_left
      · simp only [List.getElem?_toArray, List.getElem?_cons_succ, List.getElem?_cons_zero]; rfl
      go_simp
      refine hKq.out _ _ (hHeld) (fun hHeld => ?_)
      clear hKq Kq
      (try simp only [Act.put, List.setIfInBounds_toArray, List.set_cons_zero, List.set_cons_succ])
      refine PX.wpAnyY_take (i := 1) (oi := ?_) (v := ?_) ?_ (by kernel_rfl) (by kernel_rfl) (by kernel_rfl) (by kernel_rfl) (by kernel_rfl) (fun _ _ _ h => h) (Or.inl ⟨?_, ?_⟩) (by assumption) ?_
      rotate_left 2
      · simp only [List.getElem?_toArray, List.getElem?_cons_succ, List.getElem?_cons_zero]; rfl
      · rfl
      · intro w hSw; (try dsimp only at hSw); have hC := fun (b o : Nat) (h : b < w1.heap.size) => Below.cell hSw (p := ⟨b, o, none⟩) h; go_simp <;> with_reducible rfl
      (try simp only [Act.put, List.setIfInBounds_toArray, List.set_cons_zero, List.set_cons_succ])
      refine PX.wpAnyY_one (i := 2) (o := ?_) (by kernel_rfl) ?_ (fun Kq hKq => ?_)
      rotate_left
      · simp only [List.getElem?_toArray, List.getElem?_cons_succ, List.getElem?_cons_zero]; rfl
      go_simp
      refine hKq.out _ _ (hHeld) (fun hHeld => ?_)
      clear hKq Kq
      (try simp only [Act.put, List.setIfInBounds_toArray, List.set_cons_zero, List.set_cons_succ])
      refine PX.wpAnyY_one (i := 3) (o := ?_) (by kernel_rfl) ?_ (fun Kq hKq => ?_)
      rotate_left
      · simp only [List.getElem?_toArray, List.getElem?_cons_succ, List.getElem?_cons_zero]; rfl
      go_simp
      refine hKq.out _ _ (hHeld) (fun hHeld => ?_)
      clear hKq Kq
      (try simp only [Act.put, List.setIfInBounds_toArray, List.set_cons_zero, List.set_cons_succ])
      refine PX.wpAnyY_take (i := 4) (oi := ?_) (v := ?_) ?_ (by kernel_rfl) (by kernel_rfl) (by kernel_rfl) (by kernel_rfl) (by kernel_rfl) (fun _ _ _ h => h) (Or.inl ⟨?_, ?_⟩) (by assumption) ?_
      rotate_left 2
      · simp only [List.getElem?_toArray, List.getElem?_cons_succ, List.getElem?_cons_zero]; rfl
      · rfl
      · intro w hSw; (try dsimp only at hSw); go_simp <;> with_reducible rfl
      (try simp only [Act.put, List.setIfInBounds_toArray, List.set_cons_zero, List.set_cons_succ])
      refine PX.wpAnyY_take (i := 5) (oi := ?_) (v := ?_) ?_ (by kernel_rfl) (by kernel_rfl) (by kernel_rfl) (by kernel_rfl) (by kernel_rfl) (fun _ _ _ h => h) (Or.inl ⟨?_, ?_⟩) (by assumption) ?_
      rotate_left 2
      · simp only [List.getElem?_toArray, List.getElem?_cons_succ, List.getElem?_cons_zero]; rfl
      · rfl
      · intro w hSw; (try dsimp only at hSw); have hC := fun (b o : Nat) (h : b < w1.heap.size) => Below.cell hSw (p := ⟨b, o, none⟩) h; go_simp <;> with_reducible rfl
      (try simp only [Act.put, List.setIfInBounds_toArray, List.set_cons_zero, List.set_cons_succ])
      refine PX.wpAnyY_one (i := 6) (o := ?_) (by kernel_rfl) ?_ (fun Kq hKq => ?_)
      rotate_left
      · simp only [List.getElem?_toArray, List.getElem?_cons_succ, List.getElem?_cons_zero]; rfl
      go_simp
      refine hKq.out _ _ (hHeld) (fun hHeld => ?_)
      clear hKq Kq
      (try simp only [Act.put, List.setIfInBounds_toArray, List.set_cons_zero, List.set_cons_succ])
      refine PX.wpAnyY_take (i := 7) (oi := ?_) (v := ?_) ?_ (by kernel_rfl) (by kernel_rfl) (by kernel_rfl) (by kernel_rfl) (by kernel_rfl) (fun _ _ _ h => h) (Or.inl ⟨?_, ?_⟩) (by assumption) ?_
      rotate_left 2
      · simp only [List.getElem?_toArray, List.getElem?_cons_succ, List.getElem?_cons_zero]; rfl
      · rfl
      · intro w hSw; (try dsimp only at hSw); have hC := fun (b o : Nat) (h : b < w1.heap.size) => Below.cell hSw (p := ⟨b, o, none⟩) h; go_simp <;> with_reducible rfl
      (try simp only [Act.put, List.setIfInBounds_toArray, List.set_cons_zero, List.set_cons_succ])
      refine PX.wpAnyY_one (i := 8) (o := ?_) (by kernel_rfl) ?_ (fun Kq hKq => ?_)
      rotate_left
      · simp only [List.getElem?_toArray, List.getElem?_cons_succ, List.getElem?_cons_zero]; rfl
      go_simp
      refine hKq.out _ _ (hHeld) (fun hHeld => ?_)
      clear hKq Kq
      (try simp only [Act.put, List.setIfInBounds_toArray, List.set_cons_zero, List.set_cons_succ])
      refine PX.wpAnyY_one (i := 9) (o := ?_) (by kernel_rfl) ?_ (fun Kq hKq => ?_)
      rotate_left
      · simp only [List.getElem?_toArray, List.getElem?_cons_succ, List.getElem?_cons_zero]; rfl
      go_simp
      refine hKq.out _ _ (hHeld) (fun hHeld => ?_)
      clear hKq Kq
      (try simp only [Act.put, List.setIfInBounds_toArray, List.set_cons_zero, List.set_cons_succ])
      refine PX.wpAnyY_one (i := 10) (o := ?_) (by kernel_rfl) ?_ (fun Kq hKq => ?_)
      rotate_left
      · simp only [List.getElem?_toArray, List.getElem?_cons_succ, List.getElem?_cons_zero]; rfl
      go_simp
      refine hKq.out _ _ (hHeld) (fun hHeld => ?_)
      clear hKq Kq
      (try simp only [Act.put, List.setIfInBounds_toArray, List.set_cons_zero, List.set_cons_succ])
      refine PX.wpAnyY_one (i := 11) (o := ?_) (by kernel_rfl) ?_ (fun Kq hKq => ?_)
      rotate_left
      · simp only [List.getElem?_toArray, List.getElem?_cons_succ, List.getElem?_cons_zero]; rfl
      go_simp
      refine hKq.out _ _ (hHeld) (fun hHeld => ?_)
      clear hKq Kq
      (try simp only [Act.put, List.setIfInBounds_toArray, List.set_cons_zero, List.set_cons_succ])
      refine PX.wpAnyY_one (i := 12) (o := ?_) (by kernel_rfl) ?_ (fun Kq hKq => ?_)
      rotate_left
      · simp only [List.getElem?_toArray, List.getElem?_cons_succ, List.getElem?_cons_zero]; rfl
      go_simp
      refine hKq.out _ _ (hHeld) (fun hHeld => ?_)
      clear hKq Kq
      (try simp only [Act.put, List.setIfInBounds_toArray, List.set_cons_zero, List.set_cons_succ])
      refine PX.wpAnyY_one (i := 13) (o := ?_) (by kernel_rfl) ?_ (fun Kq hKq => ?_)
      rotate_left
      · simp only [List.getElem?_toArray, List.getElem?_cons_succ, List.getElem?_cons_zero]; rfl
      go_simp
      refine hKq.out _ _ (hHeld) (fun hHeld => ?_)
      clear hKq Kq
      (try simp only [Act.put, List.setIfInBounds_toArray, List.set_cons_zero, List.set_cons_succ])
      refine PX.wpAnyY_one (i := 14) (o := ?_) (by kernel_rfl) ?_ (fun Kq hKq => ?_)
      rotate_left
      · simp only [List.getElem?_toArray, List.getElem?_cons_succ, List.getElem?_cons_zero]; rfl
      go_simp
      refine hKq.out _ _ (hHeld) (fun hHeld => ?_)
      clear hKq Kq
      (try simp only [Act.put, List.setIfInBounds_toArray, List.set_cons_zero, List.set_cons_succ])
      refine PX.wpAnyY_one (i := 15) (o := ?_) (by kernel_rfl) ?_ (fun Kq hKq => ?_)
      rotate_left
      · simp only [List.getElem?_toArray, List.getElem?_cons_succ, List.getElem?_cons_zero]; rfl
      go_simp
      refine hKq.out _ _ (hHeld) (fun hHeld => ?_)
      clear hKq Kq
      (try simp only [Act.put, List.setIfInBounds_toArray, List.set_cons_zero, List.set_cons_succ])
      refine PX.wpAnyY_take (i := 16) (oi := ?_) (v := undef) ?_ (by kernel_rfl) (by kernel_rfl) (by kernel_rfl) (by kernel_rfl) (by kernel_rfl) (fun _ _ _ h => h) (Or.inr ⟨?_, rfl⟩) (by assumption) ?_
      rotate_left
      · simp only [List.getElem?_toArray, List.getElem?_cons_succ, List.getElem?_cons_zero]; rfl
      · rfl
      (try simp only [Act.put, List.setIfInBounds_toArray, List.set_cons_zero, List.set_cons_succ])
      refine PX.wpAnyY_take (i := 17) (oi := ?_) (v := undef) ?_ (by kernel_rfl) (by kernel_rfl) (by kernel_rfl) (by kernel_rfl) (by kernel_rfl) (fun _ _ _ h => h) (Or.inr ⟨?_, rfl⟩) (by assumption) ?_
      rotate_left
      · simp only [List.getElem?_toArray, List.getElem?_cons_succ, List.getElem?_cons_zero]; rfl
      · rfl
      (try simp only [Act.put, List.setIfInBounds_toArray, List.set_cons_zero, List.set_cons_succ])
      refine PX.wpAnyY_one (i := 18) (o := ?_) (by kernel_rfl) ?_ (fun Kq hKq => ?_)
      rotate_left
      · simp only [List.getElem?_toArray, List.getElem?_cons_succ, List.getElem?_cons_zero]; rfl
      go_simp
      refine hKq.out _ _ (hHeld) (fun hHeld => ?_)
      clear hKq Kq
      (try simp only [Act.put, List.setIfInBounds_toArray, List.set_cons_zero, List.set_cons_succ])
      refine PX.wpAnyY_one (i := 19) (o := ?_) (by kernel_rfl) ?_ (fun Kq hKq => ?_)
      rotate_left
      · simp only [List.getElem?_toArray, List.getElem?_cons_succ, List.getElem?_cons_zero]; rfl
      go_simp
      refine hKq.out _ _ (hHeld) (fun hHeld => ?_)
      clear hKq Kq
      (try simp only [Act.put, List.setIfInBounds_toArray, List.set_cons_zero, List.set_cons_succ])
      refine PX.wpAnyY_one (i := 20) (o := ?_) (by kernel_rfl) ?_ (fun Kq hKq => ?_)
      rotate_left
      · simp only [List.getElem?_toArray, List.getElem?_cons_succ, List.getElem?_cons_zero]; rfl
      go_simp
      refine hKq.out _ _ (hHeld) (fun hHeld => ?_)
      clear hKq Kq
      (try simp only [Act.put, List.setIfInBounds_toArray, List.set_cons_zero, List.set_cons_succ])
      refine PX.wpAnyY_one (i := 21) (o := ?_) (by kernel_rfl) ?_ (fun Kq hKq => ?_)
      rotate_left
      · simp only [List.getElem?_toArray, List.getElem?_cons_succ, List.getElem?_cons_zero]; rfl
      go_simp
      refine hKq.out _ _ (hHeld) (fun hHeld => ?_)
      clear hKq Kq
      (try simp only [Act.put, List.setIfInBounds_toArray, List.set_cons_zero, List.set_cons_succ])
      refine PX.wpAnyY_free (i := 22) (o := ?_) (by kernel_rfl) (by kernel_rfl) ?_ (fun Kq hKq => ?_)
      rotate_left
      · simp only [List.getElem?_toArray, List.getElem?_cons_succ, List.getElem?_cons_zero]; rfl
      go_simp
      refine hKq.out _ _ ?_
      clear hKq Kq
      (try simp only [Act.put, List.setIfInBounds_toArray, List.set_cons_zero, List.set_cons_succ])
      refine PX.wpAnyY_done (by kernel_rfl) ?_ _
      refine NoPanic.normal ?_
      have HE := Lib.hid (thence B1.out hHeld (Nat.le_refl _))
      clear hHeld
      go_wp2_with fail
      go_ret
      exact ⟨rfl, HE.out⟩
    have f2 : decide (lost < mem) = true := by simp; omega
    by_cases g7 : 0 ≤ done
    case neg =>
      have f3 : decide (0 ≤ done) = false := by simp; omega
      have hm : Lab.may ⟨id, ev, mem, chunk, rows, log, me, lost, done, op⟩ = false := LB.may_not.2 (fun h => by rcases h.2.2.2.2 with h | h <;> dsimp only at h <;> omega)
      rw [hm]
      clear hm
      have CM : Hid (∀ w1, Calls Try.prog 51 #[.agg #[.int .u32 (id : Int), .int .i64 mem, .int .i64 chunk, .int .i64 rows, .int .i64 log, .int .i64 2]] w1 fun e w' => e = .returned (.bool true) ∧ Below w1.heap.size w1 w') := fun w1 => by have := refMay_any id mem chunk rows log 2 w1; rw [hc] at this; exact this
      go_enter Try.func29, Try.ntmps29
      go_wp2_with fail
      generalize (w.alloc (.cells #[.int .u32 (id : Int), .int .u32 (ev : Int), .int .i64 mem, .int .i64 chunk, .int .i64 rows, .int .i64 log, .int .i64 me, .int .i64 lost, .int .i64 done, .bool op] 28)).alloc (.cells #[.int .u32 (id : Int), .int .i64 mem, .int .i64 chunk, .int .i64 rows, .int .i64 log, .int .i64 2] 62) = W0 at *
      have hg := BX.out.lt
      have hy := BY.out.lt
      obtain ⟨c0, c1, c2, c3, c4, c5, c6, c7, c8, c9⟩ := BX.out.ten
      obtain ⟨y0, y1, y2, y3, y4, y5⟩ := BY.out.six
      (with_reducible refine (CM.out _).mono ?_)
      rintro e w1 ⟨rfl, b1⟩
      have B1 := Lib.hid (thence B0.out b1 (Nat.le_refl _))
      replace BX := Lib.hid (BX.out.here b1)
      replace BY := Lib.hid (BY.out.here b1)
      clear b1 c0 c1 c2 c3 c4 c5 c6 c7 c8 c9 y0 y1 y2 y3 y4 y5 hg hy
      have hg := BX.out.lt
      have hy := BY.out.lt
      obtain ⟨c0, c1, c2, c3, c4, c5, c6, c7, c8, c9⟩ := BX.out.ten
      obtain ⟨y0, y1, y2, y3, y4, y5⟩ := BY.out.six
      go_wp2_with fail
      refine wp_region_noPanic ?_
      refine PX.wp_region_y (fun w' => Below w1.heap.size w1 w') [22] (by kernel_rfl) (Below.refl _ _).drew (fun hHeld => ?_)
      refine PX.wpAnyY_one (i := 0) (o := ?_) (by kernel_rfl) ?_ (fun Kq hKq => ?_)
      rotate_left
      · simp only [List.getElem?_toArray, List.getElem?_cons_succ, List.getElem?_cons_zero]; rfl
      go_simp
      refine hKq.out _ _ (hHeld) (fun hHeld => ?_)
      clear hKq Kq
      (try simp only [Act.put, List.setIfInBounds_toArray, List.set_cons_zero, List.set_cons_succ])
      refine PX.wpAnyY_take (i := 1) (oi := ?_) (v := ?_) ?_ (by kernel_rfl) (by kernel_rfl) (by kernel_rfl) (by kernel_rfl) (by kernel_rfl) (fun _ _ _ h => h) (Or.inl ⟨?_, ?_⟩) (by assumption) ?_
      rotate_left 2
      · simp only [List.getElem?_toArray, List.getElem?_cons_succ, List.getElem?_cons_zero]; rfl
      · rfl
      · intro w hSw; (try dsimp only at hSw); have hC := fun (b o : Nat) (h : b < w1.heap.size) => Below.cell hSw (p := ⟨b, o, none⟩) h; go_simp <;> with_reducible rfl
      (try simp only [Act.put, List.setIfInBounds_toArray, List.set_cons_zero, List.set_cons_succ])
      refine PX.wpAnyY_one (i := 2) (o := ?_) (by kernel_rfl) ?_ (fun Kq hKq => ?_)
      rotate_left
      · simp only [List.getElem?_toArray, List.getElem?_cons_succ, List.getElem?_cons_zero]; rfl
      go_simp
      refine hKq.out _ _ (hHeld) (fun hHeld => ?_)
      clear hKq Kq
      (try simp only [Act.put, List.setIfInBounds_toArray, List.set_cons_zero, List.set_cons_succ])
      refine PX.wpAnyY_one (i := 3) (o := ?_) (by kernel_rfl) ?_ (fun Kq hKq => ?_)
      rotate_left
      · simp only [List.getElem?_toArray, List.getElem?_cons_succ, List.getElem?_cons_zero]; rfl
      go_simp
      refine hKq.out _ _ (hHeld) (fun hHeld => ?_)
      clear hKq Kq
      (try simp only [Act.put, List.setIfInBounds_toArray, List.set_cons_zero, List.set_cons_succ])
      refine PX.wpAnyY_take (i := 4) (oi := ?_) (v := ?_) ?_ (by kernel_rfl) (by kernel_rfl) (by kernel_rfl) (by kernel_rfl) (by kernel_rfl) (fun _ _ _ h => h) (Or.inl ⟨?_, ?_⟩) (by assumption) ?_
      rotate_left 2
      · simp only [List.getElem?_toArray, List.getElem?_cons_succ, List.getElem?_cons_zero]; rfl
      · rfl
      · intro w hSw; (try dsimp only at hSw); go_simp <;> with_reducible rfl
      (try simp only [Act.put, List.setIfInBounds_toArray, List.set_cons_zero, List.set_cons_succ])
      refine PX.wpAnyY_take (i := 5) (oi := ?_) (v := ?_) ?_ (by kernel_rfl) (by kernel_rfl) (by kernel_rfl) (by kernel_rfl) (by kernel_rfl) (fun _ _ _ h => h) (Or.inl ⟨?_, ?_⟩) (by assumption) ?_
      rotate_left 2
      · simp only [List.getElem?_toArray, List.getElem?_cons_succ, List.getElem?_cons_zero]; rfl
      · rfl
      · intro w hSw; (try dsimp only at hSw); have hC := fun (b o : Nat) (h : b < w1.heap.size) => Below.cell hSw (p := ⟨b, o, none⟩) h; go_simp <;> with_reducible rfl
      (try simp only [Act.put, List.setIfInBounds_toArray, List.set_cons_zero, List.set_cons_succ])
      refine PX.wpAnyY_one (i := 6) (o := ?_) (by kernel_rfl) ?_ (fun Kq hKq => ?_)
      rotate_left
      · simp only [List.getElem?_toArray, List.getElem?_cons_succ, List.getElem?_cons_zero]; rfl
      go_simp
      refine hKq.out _ _ (hHeld) (fun hHeld => ?_)
      clear hKq Kq
      (try simp only [Act.put, List.setIfInBounds_toArray, List.set_cons_zero, List.set_cons_succ])
      refine PX.wpAnyY_take (i := 7) (oi := ?_) (v := ?_) ?_ (by kernel_rfl) (by kernel_rfl) (by kernel_rfl) (by kernel_rfl) (by kernel_rfl) (fun _ _ _ h => h) (Or.inl ⟨?_, ?_⟩) (by assumption) ?_
      rotate_left 2
      · simp only [List.getElem?_toArray, List.getElem?_cons_succ, List.getElem?_cons_zero]; rfl
      · rfl
      · intro w hSw; (try dsimp only at hSw); have hC := fun (b o : Nat) (h : b < w1.heap.size) => Below.cell hSw (p := ⟨b, o, none⟩) h; go_simp <;> with_reducible rfl
      (try simp only [Act.put, List.setIfInBounds_toArray, List.set_cons_zero, List.set_cons_succ])
      refine PX.wpAnyY_one (i := 8) (o := ?_) (by kernel_rfl) ?_ (fun Kq hKq => ?_)
      rotate_left
      · simp only [List.getElem?_toArray, List.getElem?_cons_succ, List.getElem?_cons_zero]; rfl
      go_simp
      refine hKq.out _ _ (hHeld) (fun hHeld => ?_)
      clear hKq Kq
      (try simp only [Act.put, List.setIfInBounds_toArray, List.set_cons_zero, List.set_cons_succ])
      refine PX.wpAnyY_one (i := 9) (o := ?_) (by kernel_rfl) ?_ (fun Kq hKq => ?_)
      rotate_left
      · simp only [List.getElem?_toArray, List.getElem?_cons_succ, List.getElem?_cons_zero]; rfl
      go_simp
      refine hKq.out _ _ (hHeld) (fun hHeld => ?_)
      clear hKq Kq
      (try simp only [Act.put, List.setIfInBounds_toArray, List.set_cons_zero, List.set_cons_succ])
      refine PX.wpAnyY_one (i := 10) (o := ?_) (by kernel_rfl) ?_ (fun Kq hKq => ?_)
      rotate_left
      · simp only [List.getElem?_toArray, List.getElem?_cons_succ, List.getElem?_cons_zero]; rfl
      go_simp
      refine hKq.out _ _ (hHeld) (fun hHeld => ?_)
      clear hKq Kq
      (try simp only [Act.put, List.setIfInBounds_toArray, List.set_cons_zero, List.set_cons_succ])
      refine PX.wpAnyY_one (i := 11) (o := ?_) (by kernel_rfl) ?_ (fun Kq hKq => ?_)
      rotate_left
      · simp only [List.getElem?_toArray, List.getElem?_cons_succ, List.getElem?_cons_zero]; rfl
      go_simp
      refine hKq.out _ _ (hHeld) (fun hHeld => ?_)
      clear hKq Kq
      (try simp only [Act.put, List.setIfInBounds_toArray, List.set_cons_zero, List.set_cons_succ])
      refine PX.wpAnyY_take (i := 12) (oi := ?_) (v := ?_) ?_ (by kernel_rfl) (by kernel_rfl) (by kernel_rfl) (by kernel_rfl) (by kernel_rfl) (fun _ _ _ h => h) (Or.inl ⟨?_, ?_⟩) (by assumption) ?_
      rotate_left 2
      · simp only [List.getElem?_toArray, List.getElem?_cons_succ, List.getElem?_cons_zero]; rfl
      · rfl
      · intro w hSw; (try dsimp only at hSw); have hC := fun (b o : Nat) (h : b < w1.heap.size) => Below.cell hSw (p := ⟨b, o, none⟩) h; go_simp <;> with_reducible rfl
      (try simp only [Act.put, List.setIfInBounds_toArray, List.set_cons_zero, List.set_cons_succ])
      refine PX.wpAnyY_one (i := 13) (o := ?_) (by kernel_rfl) ?_ (fun Kq hKq => ?_)
      rotate_left
      · simp only [List.getElem?_toArray, List.getElem?_cons_succ, List.getElem?_cons_zero]; rfl
      go_simp
      refine hKq.out _ _ (hHeld) (fun hHeld => ?_)
      clear hKq Kq
      (try simp only [Act.put, List.setIfInBounds_toArray, List.set_cons_zero, List.set_cons_succ])
      refine PX.wpAnyY_one (i := 14) (o := ?_) (by kernel_rfl) ?_ (fun Kq hKq => ?_)
      rotate_left
      · simp only [List.getElem?_toArray, List.getElem?_cons_succ, List.getElem?_cons_zero]; rfl
      go_simp
      refine hKq.out _ _ (hHeld) (fun hHeld => ?_)
      clear hKq Kq
      (try simp only [Act.put, List.setIfInBounds_toArray, List.set_cons_zero, List.set_cons_succ])
      refine PX.wpAnyY_one (i := 15) (o := ?_) (by kernel_rfl) ?_ (fun Kq hKq => ?_)
      rotate_left
      · simp only [List.getElem?_toArray, List.getElem?_cons_succ, List.getElem?_cons_zero]; rfl
      go_simp
      refine hKq.out _ _ (hHeld) (fun hHeld => ?_)
      clear hKq Kq
      (try simp only [Act.put, List.setIfInBounds_toArray, List.set_cons_zero, List.set_cons_succ])
      refine PX.wpAnyY_take (i := 16) (oi := ?_) (v := undef) ?_ (by kernel_rfl) (by kernel_rfl) (by kernel_rfl) (by kernel_rfl) (by kernel_rfl) (fun _ _ _ h => h) (Or.inr ⟨?_, rfl⟩) (by assumption) ?_
      rotate_left
      · simp only [List.getElem?_toArray, List.getElem?_cons_succ, List.getElem?_cons_zero]; rfl
      · rfl
      (try simp only [Act.put, List.setIfInBounds_toArray, List.set_cons_zero, List.set_cons_succ])
      refine PX.wpAnyY_take (i := 17) (oi := ?_) (v := undef) ?_ (by kernel_rfl) (by kernel_rfl) (by kernel_rfl) (by kernel_rfl) (by kernel_rfl) (fun _ _ _ h => h) (Or.inr ⟨?_, rfl⟩) (by assumption) ?_
      rotate_left
      · simp only [List.getElem?_toArray, List.getElem?_cons_succ, List.getElem?_cons_zero]; rfl
      · rfl
      (try simp only [Act.put, List.setIfInBounds_toArray, List.set_cons_zero, List.set_cons_succ])
      refine PX.wpAnyY_one (i := 18) (o := ?_) (by kernel_rfl) ?_ (fun Kq hKq => ?_)
      rotate_left
      · simp only [List.getElem?_toArray, List.getElem?_cons_succ, List.getElem?_cons_zero]; rfl
      go_simp
      refine hKq.out _ _ (hHeld) (fun hHeld => ?_)
      clear hKq Kq
      (try simp only [Act.put, List.setIfInBounds_toArray, List.set_cons_zero, List.set_cons_succ])
      refine PX.wpAnyY_one (i := 19) (o := ?_) (by kernel_rfl) ?_ (fun Kq hKq => ?_)
      rotate_left
      · simp only [List.getElem?_toArray, List.getElem?_cons_succ, List.getElem?_cons_zero]; rfl
      go_simp
      refine hKq.out _ _ (hHeld) (fun hHeld => ?_)
      clear hKq Kq
      (try simp only [Act.put, List.setIfInBounds_toArray, List.set_cons_zero, List.set_cons_succ])
      refine PX.wpAnyY_one (i := 20) (o := ?_) (by kernel_rfl) ?_ (fun Kq hKq => ?_)
      rotate_left
      · simp only [List.getElem?_toArray, List.getElem?_cons_succ, List.getElem?_cons_zero]; rfl
      go_simp
      refine hKq.out _ _ (hHeld) (fun hHeld => ?_)
      clear hKq Kq
      (try simp only [Act.put, List.setIfInBounds_toArray, List.set_cons_zero, List.set_cons_succ])
      refine PX.wpAnyY_one (i := 21) (o := ?_) (by kernel_rfl) ?_ (fun Kq hKq => ?_)
      rotate_left
      · simp only [List.getElem?_toArray, List.getElem?_cons_succ, List.getElem?_cons_zero]; rfl
      go_simp
      refine hKq.out _ _ (hHeld) (fun hHeld => ?_)
      clear hKq Kq
      (try simp only [Act.put, List.setIfInBounds_toArray, List.set_cons_zero, List.set_cons_succ])
      refine PX.wpAnyY_free (i := 22) (o := ?_) (by kernel_rfl) (by kernel_rfl) ?_ (fun Kq hKq => ?_)
      rotate_left
      · simp only [List.getElem?_toArray, List.getElem?_cons_succ, List.getElem?_cons_zero]; rfl
      go_simp
      refine hKq.out _ _ ?_
      clear hKq Kq
      (try simp only [Act.put, List.setIfInBounds_toArray, List.set_cons_zero, List.set_cons_succ])
      refine PX.wpAnyY_done (by kernel_rfl) ?_ _
      refine NoPanic.normal ?_
      have HE := Lib.hid (thence B1.out hHeld (Nat.le_refl _))
      clear hHeld
      go_wp2_with fail
      go_ret
      exact ⟨rfl, HE.out⟩
    have f3 : decide (0 ≤ done) = true := by simp; omega
    by_cases g8 : done ≤ chunk * rows
    case neg =>
      have f4 : decide (done ≤ chunk * rows) = false := by simp; omega
      have hm : Lab.may ⟨id, ev, mem, chunk, rows, log, me, lost, done, op⟩ = false := LB.may_not.2 (fun h => by rcases h.2.2.2.2 with h | h <;> dsimp only at h <;> omega)
      rw [hm]
      clear hm
      have CM : Hid (∀ w1, Calls Try.prog 51 #[.agg #[.int .u32 (id : Int), .int .i64 mem, .int .i64 chunk, .int .i64 rows, .int .i64 log, .int .i64 2]] w1 fun e w' => e = .returned (.bool true) ∧ Below w1.heap.size w1 w') := fun w1 => by have := refMay_any id mem chunk rows log 2 w1; rw [hc] at this; exact this
      go_enter Try.func29, Try.ntmps29
      go_wp2_with fail
      generalize (w.alloc (.cells #[.int .u32 (id : Int), .int .u32 (ev : Int), .int .i64 mem, .int .i64 chunk, .int .i64 rows, .int .i64 log, .int .i64 me, .int .i64 lost, .int .i64 done, .bool op] 28)).alloc (.cells #[.int .u32 (id : Int), .int .i64 mem, .int .i64 chunk, .int .i64 rows, .int .i64 log, .int .i64 2] 62) = W0 at *
      have hg := BX.out.lt
      have hy := BY.out.lt
      obtain ⟨c0, c1, c2, c3, c4, c5, c6, c7, c8, c9⟩ := BX.out.ten
      obtain ⟨y0, y1, y2, y3, y4, y5⟩ := BY.out.six
      (with_reducible refine (CM.out _).mono ?_)
      rintro e w1 ⟨rfl, b1⟩
      have B1 := Lib.hid (thence B0.out b1 (Nat.le_refl _))
      replace BX := Lib.hid (BX.out.here b1)
      replace BY := Lib.hid (BY.out.here b1)
      clear b1 c0 c1 c2 c3 c4 c5 c6 c7 c8 c9 y0 y1 y2 y3 y4 y5 hg hy
      have hg := BX.out.lt
      have hy := BY.out.lt
      obtain ⟨c0, c1, c2, c3, c4, c5, c6, c7, c8, c9⟩ := BX.out.ten
      obtain ⟨y0, y1, y2, y3, y4, y5⟩ := BY.out.six
      go_wp2_with fail
      refine wp_region_noPanic ?_
      refine PX.wp_region_y (fun w' => Below w1.heap.size w1 w') [22] (by kernel_rfl) (Below.refl _ _).drew (fun hHeld => ?_)
      refine PX.wpAnyY_one (i := 0) (o := ?_) (by kernel_rfl) ?_ (fun Kq hKq => ?_)
      rotate_left
      · simp only [List.getElem?_toArray, List.getElem?_cons_succ, List.getElem?_cons_zero]; rfl
      go_simp
      refine hKq.out _ _ (hHeld) (fun hHeld => ?_)
      clear hKq Kq
      (try simp only [Act.put, List.setIfInBounds_toArray, List.set_cons_zero, List.set_cons_succ])
      refine PX.wpAnyY_take (i := 1) (oi := ?_) (v := ?_) ?_ (by kernel_rfl) (by kernel_rfl) (by kernel_rfl) (by kernel_rfl) (by kernel_rfl) (fun _ _ _ h => h) (Or.inl ⟨?_, ?_⟩) (by assumption) ?_
      rotate_left 2
      · simp only [List.getElem?_toArray, List.getElem?_cons_succ, List.getElem?_cons_zero]; rfl
      · rfl
      · intro w hSw; (try dsimp only at hSw); have hC := fun (b o : Nat) (h : b < w1.heap.size) => Below.cell hSw (p := ⟨b, o, none⟩) h; go_simp <;> with_reducible rfl
      (try simp only [Act.put, List.setIfInBounds_toArray, List.set_cons_zero, List.set_cons_succ])
      refine PX.wpAnyY_one (i := 2) (o := ?_) (by kernel_rfl) ?_ (fun Kq hKq => ?_)
      rotate_left
      · simp only [List.getElem?_toArray, List.getElem?_cons_succ, List.getElem?_cons_zero]; rfl
      go_simp
      refine hKq.out _ _ (hHeld) (fun hHeld => ?_)
      clear hKq Kq
      (try simp only [Act.put, List.setIfInBounds_toArray, List.set_cons_zero, List.set_cons_succ])
      refine PX.wpAnyY_one (i := 3) (o := ?_) (by kernel_rfl) ?_ (fun Kq hKq => ?_)
      rotate_left
      · simp only [List.getElem?_toArray, List.getElem?_cons_succ, List.getElem?_cons_zero]; rfl
      go_simp
      refine hKq.out _ _ (hHeld) (fun hHeld => ?_)
      clear hKq Kq
      (try simp only [Act.put, List.setIfInBounds_toArray, List.set_cons_zero, List.set_cons_succ])
      refine PX.wpAnyY_take (i := 4) (oi := ?_) (v := ?_) ?_ (by kernel_rfl) (by kernel_rfl) (by kernel_rfl) (by kernel_rfl) (by kernel_rfl) (fun _ _ _ h => h) (Or.inl ⟨?_, ?_⟩) (by assumption) ?_
      rotate_left 2
      · simp only [List.getElem?_toArray, List.getElem?_cons_succ, List.getElem?_cons_zero]; rfl
      · rfl
      · intro w hSw; (try dsimp only at hSw); go_simp <;> with_reducible rfl
      (try simp only [Act.put, List.setIfInBounds_toArray, List.set_cons_zero, List.set_cons_succ])
      refine PX.wpAnyY_take (i := 5) (oi := ?_) (v := ?_) ?_ (by kernel_rfl) (by kernel_rfl) (by kernel_rfl) (by kernel_rfl) (by kernel_rfl) (fun _ _ _ h => h) (Or.inl ⟨?_, ?_⟩) (by assumption) ?_
      rotate_left 2
      · simp only [List.getElem?_toArray, List.getElem?_cons_succ, List.getElem?_cons_zero]; rfl
      · rfl
      · intro w hSw; (try dsimp only at hSw); have hC := fun (b o : Nat) (h : b < w1.heap.size) => Below.cell hSw (p := ⟨b, o, none⟩) h; go_simp <;> with_reducible rfl
      (try simp only [Act.put, List.setIfInBounds_toArray, List.set_cons_zero, List.set_cons_succ])
      refine PX.wpAnyY_one (i := 6) (o := ?_) (by kernel_rfl) ?_ (fun Kq hKq => ?_)
      rotate_left
      · simp only [List.getElem?_toArray, List.getElem?_cons_succ, List.getElem?_cons_zero]; rfl
      go_simp
      refine hKq.out _ _ (hHeld) (fun hHeld => ?_)
      clear hKq Kq
      (try simp only [Act.put, List.setIfInBounds_toArray, List.set_cons_zero, List.set_cons_succ])
      refine PX.wpAnyY_take (i := 7) (oi := ?_) (v := ?_) ?_ (by kernel_rfl) (by kernel_rfl) (by kernel_rfl) (by kernel_rfl) (by kernel_rfl) (fun _ _ _ h => h) (Or.inl ⟨?_, ?_⟩) (by assumption) ?_
      rotate_left 2
      · simp only [List.getElem?_toArray, List.getElem?_cons_succ, List.getElem?_cons_zero]; rfl
      · rfl
      · intro w hSw; (try dsimp only at hSw); have hC := fun (b o : Nat) (h : b < w1.heap.size) => Below.cell hSw (p := ⟨b, o, none⟩) h; go_simp <;> with_reducible rfl
      (try simp only [Act.put, List.setIfInBounds_toArray, List.set_cons_zero, List.set_cons_succ])
      refine PX.wpAnyY_one (i := 8) (o := ?_) (by kernel_rfl) ?_ (fun Kq hKq => ?_)
      rotate_left
      · simp only [List.getElem?_toArray, List.getElem?_cons_succ, List.getElem?_cons_zero]; rfl
      go_simp
      refine hKq.out _ _ (hHeld) (fun hHeld => ?_)
      clear hKq Kq
      (try simp only [Act.put, List.setIfInBounds_toArray, List.set_cons_zero, List.set_cons_succ])
      refine PX.wpAnyY_one (i := 9) (o := ?_) (by kernel_rfl) ?_ (fun Kq hKq => ?_)
      rotate_left
      · simp only [List.getElem?_toArray, List.getElem?_cons_succ, List.getElem?_cons_zero]; rfl
      go_simp
      refine hKq.out _ _ (hHeld) (fun hHeld => ?_)
      clear hKq Kq
      (try simp only [Act.put, List.setIfInBounds_toArray, List.set_cons_zero, List.set_cons_succ])
      refine PX.wpAnyY_one (i := 10) (o := ?_) (by kernel_rfl) ?_ (fun Kq hKq => ?_)
      rotate_left
      · simp only [List.getElem?_toArray, List.getElem?_cons_succ, List.getElem?_cons_zero]; rfl
      go_simp
      refine hKq.out _ _ (hHeld) (fun hHeld => ?_)
      clear hKq Kq
      (try simp only [Act.put, List.setIfInBounds_toArray, List.set_cons_zero, List.set_cons_succ])
      refine PX.wpAnyY_one (i := 11) (o := ?_) (by kernel_rfl) ?_ (fun Kq hKq => ?_)
      rotate_left
      · simp only [List.getElem?_toArray, List.getElem?_cons_succ, List.getElem?_cons_zero]; rfl
      go_simp
      refine hKq.out _ _ (hHeld) (fun hHeld => ?_)
      clear hKq Kq
      (try simp only [Act.put, List.setIfInBounds_toArray, List.set_cons_zero, List.set_cons_succ])
      refine PX.wpAnyY_take (i := 12) (oi := ?_) (v := ?_) ?_ (by kernel_rfl) (by kernel_rfl) (by kernel_rfl) (by kernel_rfl) (by kernel_rfl) (fun _ _ _ h => h) (Or.inl ⟨?_, ?_⟩) (by assumption) ?_
      rotate_left 2
      · simp only [List.getElem?_toArray, List.getElem?_cons_succ, List.getElem?_cons_zero]; rfl
      · rfl
      · intro w hSw; (try dsimp only at hSw); have hC := fun (b o : Nat) (h : b < w1.heap.size) => Below.cell hSw (p := ⟨b, o, none⟩) h; go_simp <;> with_reducible rfl
      (try simp only [Act.put, List.setIfInBounds_toArray, List.set_cons_zero, List.set_cons_succ])
      refine PX.wpAnyY_one (i := 13) (o := ?_) (by kernel_rfl) ?_ (fun Kq hKq => ?_)
      rotate_left
      · simp only [List.getElem?_toArray, List.getElem?_cons_succ, List.getElem?_cons_zero]; rfl
      go_simp
      refine hKq.out _ _ (hHeld) (fun hHeld => ?_)
      clear hKq Kq
      (try simp only [Act.put, List.setIfInBounds_toArray, List.set_cons_zero, List.set_cons_succ])
      refine PX.wpAnyY_one (i := 14) (o := ?_) (by kernel_rfl) ?_ (fun Kq hKq => ?_)
      rotate_left
      · simp only [List.getElem?_toArray, List.getElem?_cons_succ, List.getElem?_cons_zero]; rfl
      go_simp
      refine hKq.out _ _ (hHeld) (fun hHeld => ?_)
      clear hKq Kq
      (try simp only [Act.put, List.setIfInBounds_toArray, List.set_cons_zero, List.set_cons_succ])
      refine PX.wpAnyY_one (i := 15) (o := ?_) (by kernel_rfl) ?_ (fun Kq hKq => ?_)
      rotate_left
      · simp only [List.getElem?_toArray, List.getElem?_cons_succ, List.getElem?_cons_zero]; rfl
      go_simp
      refine hKq.out _ _ (hHeld) (fun hHeld => ?_)
      clear hKq Kq
      (try simp only [Act.put, List.setIfInBounds_toArray, List.set_cons_zero, List.set_cons_succ])
      refine PX.wpAnyY_take (i := 16) (oi := ?_) (v := ?_) ?_ (by kernel_rfl) (by kernel_rfl) (by kernel_rfl) (by kernel_rfl) (by kernel_rfl) (fun _ _ _ h => h) (Or.inl ⟨?_, ?_⟩) (by assumption) ?_
      rotate_left 2
      · simp only [List.getElem?_toArray, List.getElem?_cons_succ, List.getElem?_cons_zero]; rfl
      · rfl
      · intro w hSw; (try dsimp only at hSw); go_simp <;> with_reducible rfl
      (try simp only [Act.put, List.setIfInBounds_toArray, List.set_cons_zero, List.set_cons_succ])
      refine PX.wpAnyY_take (i := 17) (oi := ?_) (v := ?_) ?_ (by kernel_rfl) (by kernel_rfl) (by kernel_rfl) (by kernel_rfl) (by kernel_rfl) (fun _ _ _ h => h) (Or.inl ⟨?_, ?_⟩) (by assumption) ?_
      rotate_left 2
      · simp only [List.getElem?_toArray, List.getElem?_cons_succ, List.getElem?_cons_zero]; rfl
      · rfl
      · intro w hSw; (try dsimp only at hSw); have hC := fun (b o : Nat) (h : b < w1.heap.size) => Below.cell hSw (p := ⟨b, o, none⟩) h; go_simp <;> with_reducible rfl
      (try simp only [Act.put, List.setIfInBounds_toArray, List.set_cons_zero, List.set_cons_succ])
      refine PX.wpAnyY_take (i := 18) (oi := ?_) (v := ?_) ?_ (by kernel_rfl) (by kernel_rfl) (by kernel_rfl) (by kernel_rfl) (by kernel_rfl) (fun _ _ _ h => h) (Or.inl ⟨?_, ?_⟩) (by assumption) ?_
      rotate_left 2
      · simp only [List.getElem?_toArray, List.getElem?_cons_succ, List.getElem?_cons_zero]; rfl
      · rfl
      · intro w hSw; (try dsimp only at hSw); have hC := fun (b o : Nat) (h : b < w1.heap.size) => Below.cell hSw (p := ⟨b, o, none⟩) h; go_simp <;> with_reducible rfl
      (try simp only [Act.put, List.setIfInBounds_toArray, List.set_cons_zero, List.set_cons_succ])
      refine PX.wpAnyY_one (i := 19) (o := ?_) (by kernel_rfl) ?_ (fun Kq hKq => ?_)
      rotate_left
      · simp only [List.getElem?_toArray, List.getElem?_cons_succ, List.getElem?_cons_zero]; rfl
      go_simp
      (with_reducible refine (CS.out _).mono ?_)
      rintro e w2 ⟨rfl, bqw2⟩
      have Hw2 := Lib.hid (thence hHeld bqw2 (Nat.le_refl _))
      clear bqw2
      go_wp2_with fail
      refine hKq.out _ _ (Hw2.out) (fun hHeld => ?_)
      clear hKq Kq
      (try simp only [Act.put, List.setIfInBounds_toArray, List.set_cons_zero, List.set_cons_succ])
      refine PX.wpAnyY_one (i := 20) (o := ?_) (by kernel_rfl) ?_ (fun Kq hKq => ?_)
      rotate_left
      · simp only [List.getElem?_toArray, List.getElem?_cons_succ, List.getElem?_cons_zero]; rfl
      go_simp
      refine hKq.out _ _ (hHeld) (fun hHeld => ?_)
      clear hKq Kq
      (try simp only [Act.put, List.setIfInBounds_toArray, List.set_cons_zero, List.set_cons_succ])
      refine PX.wpAnyY_one (i := 21) (o := ?_) (by kernel_rfl) ?_ (fun Kq hKq => ?_)
      rotate_left
      · simp only [List.getElem?_toArray, List.getElem?_cons_succ, List.getElem?_cons_zero]; rfl
      go_simp
      refine hKq.out _ _ (hHeld) (fun hHeld => ?_)
      clear hKq Kq
      (try simp only [Act.put, List.setIfInBounds_toArray, List.set_cons_zero, List.set_cons_succ])
      refine PX.wpAnyY_free (i := 22) (o := ?_) (by kernel_rfl) (by kernel_rfl) ?_ (fun Kq hKq => ?_)
      rotate_left
      · simp only [List.getElem?_toArray, List.getElem?_cons_succ, List.getElem?_cons_zero]; rfl
      go_simp
      refine hKq.out _ _ ?_
      clear hKq Kq
      (try simp only [Act.put, List.setIfInBounds_toArray, List.set_cons_zero, List.set_cons_succ])
      refine PX.wpAnyY_done (by kernel_rfl) ?_ _
      refine NoPanic.normal ?_
      have HE := Lib.hid (thence B1.out Hw2.out (Nat.le_refl _))
      clear hHeld
      go_wp2_with fail
      go_ret
      exact ⟨rfl, HE.out⟩
    have f4 : decide (done ≤ chunk * rows) = true := by simp; omega
    rw [(LB.may_iff (L := ⟨id, ev, mem, chunk, rows, log, me, lost, done, op⟩)).2 ⟨SK.may_iff.1 hc, by dsimp only; omega, by dsimp only; omega, by dsimp only; omega, .inr ⟨g5, g6, g7, g8⟩⟩]
    have CM : Hid (∀ w1, Calls Try.prog 51 #[.agg #[.int .u32 (id : Int), .int .i64 mem, .int .i64 chunk, .int .i64 rows, .int .i64 log, .int .i64 2]] w1 fun e w' => e = .returned (.bool true) ∧ Below w1.heap.size w1 w') := fun w1 => by have := refMay_any id mem chunk rows log 2 w1; rw [hc] at this; exact this
    go_enter Try.func29, Try.ntmps29
    go_wp2_with fail
    generalize (w.alloc (.cells #[.int .u32 (id : Int), .int .u32 (ev : Int), .int .i64 mem, .int .i64 chunk, .int .i64 rows, .int .i64 log, .int .i64 me, .int .i64 lost, .int .i64 done, .bool op] 28)).alloc (.cells #[.int .u32 (id : Int), .int .i64 mem, .int .i64 chunk, .int .i64 rows, .int .i64 log, .int .i64 2] 62) = W0 at *
    have hg := BX.out.lt
    have hy := BY.out.lt
    obtain ⟨c0, c1, c2, c3, c4, c5, c6, c7, c8, c9⟩ := BX.out.ten
    obtain ⟨y0, y1, y2, y3, y4, y5⟩ := BY.out.six
    (with_reducible refine (CM.out _).mono ?_)
    rintro e w1 ⟨rfl, b1⟩
    have B1 := Lib.hid (thence B0.out b1 (Nat.le_refl _))
    replace BX := Lib.hid (BX.out.here b1)
    replace BY := Lib.hid (BY.out.here b1)
    clear b1 c0 c1 c2 c3 c4 c5 c6 c7 c8 c9 y0 y1 y2 y3 y4 y5 hg hy
    have hg := BX.out.lt
    have hy := BY.out.lt
    obtain ⟨c0, c1, c2, c3, c4, c5, c6, c7, c8, c9⟩ := BX.out.ten
    obtain ⟨y0, y1, y2, y3, y4, y5⟩ := BY.out.six
    go_wp2_with fail
    refine wp_region_noPanic ?_
    refine PX.wp_region_y (fun w' => Below w1.heap.size w1 w') [22] (by kernel_rfl) (Below.refl _ _).drew (fun hHeld => ?_)
    refine PX.wpAnyY_one (i := 0) (o := ?_) (by kernel_rfl) ?_ (fun Kq hKq => ?_)
    rotate_left
    · simp only [List.getElem?_toArray, List.getElem?_cons_succ, List.getElem?_cons_zero]; rfl
    go_simp
    refine hKq.out _ _ (hHeld) (fun hHeld => ?_)
    clear hKq Kq
    (try simp only [Act.put, List.setIfInBounds_toArray, List.set_cons_zero, List.set_cons_succ])
    refine PX.wpAnyY_take (i := 1) (oi := ?_) (v := ?_) ?_ (by kernel_rfl) (by kernel_rfl) (by kernel_rfl) (by kernel_rfl) (by kernel_rfl) (fun _ _ _ h => h) (Or.inl ⟨?_, ?_⟩) (by assumption) ?_
    rotate_left 2
    · simp only [List.getElem?_toArray, List.getElem?_cons_succ, List.getElem?_cons_zero]; rfl
    · rfl
    · intro w hSw; (try dsimp only at hSw); have hC := fun (b o : Nat) (h : b < w1.heap.size) => Below.cell hSw (p := ⟨b, o, none⟩) h; go_simp <;> with_reducible rfl
    (try simp only [Act.put, List.setIfInBounds_toArray, List.set_cons_zero, List.set_cons_succ])
    refine PX.wpAnyY_one (i := 2) (o := ?_) (by kernel_rfl) ?_ (fun Kq hKq => ?_)
    rotate_left
    · simp only [List.getElem?_toArray, List.getElem?_cons_succ, List.getElem?_cons_zero]; rfl
    go_simp
    refine hKq.out _ _ (hHeld) (fun hHeld => ?_)
    clear hKq Kq
    (try simp only [Act.put, List.setIfInBounds_toArray, List.set_cons_zero, List.set_cons_succ])
    refine PX.wpAnyY_one (i := 3) (o := ?_) (by kernel_rfl) ?_ (fun Kq hKq => ?_)
    rotate_left
    · simp only [List.getElem?_toArray, List.getElem?_cons_succ, List.getElem?_cons_zero]; rfl
    go_simp
    refine hKq.out _ _ (hHeld) (fun hHeld => ?_)
    clear hKq Kq
    (try simp only [Act.put, List.setIfInBounds_toArray, List.set_cons_zero, List.set_cons_succ])
    refine PX.wpAnyY_take (i := 4) (oi := ?_) (v := ?_) ?_ (by kernel_rfl) (by kernel_rfl) (by kernel_rfl) (by kernel_rfl) (by kernel_rfl) (fun _ _ _ h => h) (Or.inl ⟨?_, ?_⟩) (by assumption) ?_
    rotate_left 2
    · simp only [List.getElem?_toArray, List.getElem?_cons_succ, List.getElem?_cons_zero]; rfl
    · rfl
    · intro w hSw; (try dsimp only at hSw); go_simp <;> with_reducible rfl
    (try simp only [Act.put, List.setIfInBounds_toArray, List.set_cons_zero, List.set_cons_succ])
    refine PX.wpAnyY_take (i := 5) (oi := ?_) (v := ?_) ?_ (by kernel_rfl) (by kernel_rfl) (by kernel_rfl) (by kernel_rfl) (by kernel_rfl) (fun _ _ _ h => h) (Or.inl ⟨?_, ?_⟩) (by assumption) ?_
    rotate_left 2
    · simp only [List.getElem?_toArray, List.getElem?_cons_succ, List.getElem?_cons_zero]; rfl
    · rfl
    · intro w hSw; (try dsimp only at hSw); have hC := fun (b o : Nat) (h : b < w1.heap.size) => Below.cell hSw (p := ⟨b, o, none⟩) h; go_simp <;> with_reducible rfl
    (try simp only [Act.put, List.setIfInBounds_toArray, List.set_cons_zero, List.set_cons_succ])
    refine PX.wpAnyY_one (i := 6) (o := ?_) (by kernel_rfl) ?_ (fun Kq hKq => ?_)
    rotate_left
    · simp only [List.getElem?_toArray, List.getElem?_cons_succ, List.getElem?_cons_zero]; rfl
    go_simp
    refine hKq.out _ _ (hHeld) (fun hHeld => ?_)
    clear hKq Kq
    (try simp only [Act.put, List.setIfInBounds_toArray, List.set_cons_zero, List.set_cons_succ])
    refine PX.wpAnyY_take (i := 7) (oi := ?_) (v := ?_) ?_ (by kernel_rfl) (by kernel_rfl) (by kernel_rfl) (by kernel_rfl) (by kernel_rfl) (fun _ _ _ h => h) (Or.inl ⟨?_, ?_⟩) (by assumption) ?_
    rotate_left 2
    · simp only [List.getElem?_toArray, List.getElem?_cons_succ, List.getElem?_cons_zero]; rfl
    · rfl
    · intro w hSw; (try dsimp only at hSw); have hC := fun (b o : Nat) (h : b < w1.heap.size) => Below.cell hSw (p := ⟨b, o, none⟩) h; go_simp <;> with_reducible rfl
    (try simp only [Act.put, List.setIfInBounds_toArray, List.set_cons_zero, List.set_cons_succ])
    refine PX.wpAnyY_one (i := 8) (o := ?_) (by kernel_rfl) ?_ (fun Kq hKq => ?_)
    rotate_left
    · simp only [List.getElem?_toArray, List.getElem?_cons_succ, List.getElem?_cons_zero]; rfl
    go_simp
    refine hKq.out _ _ (hHeld) (fun hHeld => ?_)
    clear hKq Kq
    (try simp only [Act.put, List.setIfInBounds_toArray, List.set_cons_zero, List.set_cons_succ])
    refine PX.wpAnyY_one (i := 9) (o := ?_) (by kernel_rfl) ?_ (fun Kq hKq => ?_)
    rotate_left
    · simp only [List.getElem?_toArray, List.getElem?_cons_succ, List.getElem?_cons_zero]; rfl
    go_simp
    refine hKq.out _ _ (hHeld) (fun hHeld => ?_)
    clear hKq Kq
    (try simp only [Act.put, List.setIfInBounds_toArray, List.set_cons_zero, List.set_cons_succ])
    refine PX.wpAnyY_one (i := 10) (o := ?_) (by kernel_rfl) ?_ (fun Kq hKq => ?_)
    rotate_left
    · simp only [List.getElem?_toArray, List.getElem?_cons_succ, List.getElem?_cons_zero]; rfl
    go_simp
    refine hKq.out _ _ (hHeld) (fun hHeld => ?_)
    clear hKq Kq
    (try simp only [Act.put, List.setIfInBounds_toArray, List.set_cons_zero, List.set_cons_succ])
    refine PX.wpAnyY_one (i := 11) (o := ?_) (by kernel_rfl) ?_ (fun Kq hKq => ?_)
    rotate_left
    · simp only [List.getElem?_toArray, List.getElem?_cons_succ, List.getElem?_cons_zero]; rfl
    go_simp
    refine hKq.out _ _ (hHeld) (fun hHeld => ?_)
    clear hKq Kq
    (try simp only [Act.put, List.setIfInBounds_toArray, List.set_cons_zero, List.set_cons_succ])
    refine PX.wpAnyY_take (i := 12) (oi := ?_) (v := ?_) ?_ (by kernel_rfl) (by kernel_rfl) (by kernel_rfl) (by kernel_rfl) (by kernel_rfl) (fun _ _ _ h => h) (Or.inl ⟨?_, ?_⟩) (by assumption) ?_
    rotate_left 2
    · simp only [List.getElem?_toArray, List.getElem?_cons_succ, List.getElem?_cons_zero]; rfl
    · rfl
    · intro w hSw; (try dsimp only at hSw); have hC := fun (b o : Nat) (h : b < w1.heap.size) => Below.cell hSw (p := ⟨b, o, none⟩) h; go_simp <;> with_reducible rfl
    (try simp only [Act.put, List.setIfInBounds_toArray, List.set_cons_zero, List.set_cons_succ])
    refine PX.wpAnyY_one (i := 13) (o := ?_) (by kernel_rfl) ?_ (fun Kq hKq => ?_)
    rotate_left
    · simp only [List.getElem?_toArray, List.getElem?_cons_succ, List.getElem?_cons_zero]; rfl
    go_simp
    refine hKq.out _ _ (hHeld) (fun hHeld => ?_)
    clear hKq Kq
    (try simp only [Act.put, List.setIfInBounds_toArray, List.set_cons_zero, List.set_cons_succ])
    refine PX.wpAnyY_one (i := 14) (o := ?_) (by kernel_rfl) ?_ (fun Kq hKq => ?_)
    rotate_left
    · simp only [List.getElem?_toArray, List.getElem?_cons_succ, List.getElem?_cons_zero]; rfl
    go_simp
    refine hKq.out _ _ (hHeld) (fun hHeld => ?_)
    clear hKq Kq
    (try simp only [Act.put, List.setIfInBounds_toArray, List.set_cons_zero, List.set_cons_succ])
    refine PX.wpAnyY_one (i := 15) (o := ?_) (by kernel_rfl) ?_ (fun Kq hKq => ?_)
    rotate_left
    · simp only [List.getElem?_toArray, List.getElem?_cons_succ, List.getElem?_cons_zero]; rfl
    go_simp
    refine hKq.out _ _ (hHeld) (fun hHeld => ?_)
    clear hKq Kq
    (try simp only [Act.put, List.setIfInBounds_toArray, List.set_cons_zero, List.set_cons_succ])
    refine PX.wpAnyY_take (i := 16) (oi := ?_) (v := ?_) ?_ (by kernel_rfl) (by kernel_rfl) (by kernel_rfl) (by kernel_rfl) (by kernel_rfl) (fun _ _ _ h => h) (Or.inl ⟨?_, ?_⟩) (by assumption) ?_
    rotate_left 2
    · simp only [List.getElem?_toArray, List.getElem?_cons_succ, List.getElem?_cons_zero]; rfl
    · rfl
    · intro w hSw; (try dsimp only at hSw); go_simp <;> with_reducible rfl
    (try simp only [Act.put, List.setIfInBounds_toArray, List.set_cons_zero, List.set_cons_succ])
    refine PX.wpAnyY_take (i := 17) (oi := ?_) (v := ?_) ?_ (by kernel_rfl) (by kernel_rfl) (by kernel_rfl) (by kernel_rfl) (by kernel_rfl) (fun _ _ _ h => h) (Or.inl ⟨?_, ?_⟩) (by assumption) ?_
    rotate_left 2
    · simp only [List.getElem?_toArray, List.getElem?_cons_succ, List.getElem?_cons_zero]; rfl
    · rfl
    · intro w hSw; (try dsimp only at hSw); have hC := fun (b o : Nat) (h : b < w1.heap.size) => Below.cell hSw (p := ⟨b, o, none⟩) h; go_simp <;> with_reducible rfl
    (try simp only [Act.put, List.setIfInBounds_toArray, List.set_cons_zero, List.set_cons_succ])
    refine PX.wpAnyY_take (i := 18) (oi := ?_) (v := ?_) ?_ (by kernel_rfl) (by kernel_rfl) (by kernel_rfl) (by kernel_rfl) (by kernel_rfl) (fun _ _ _ h => h) (Or.inl ⟨?_, ?_⟩) (by assumption) ?_
    rotate_left 2
    · simp only [List.getElem?_toArray, List.getElem?_cons_succ, List.getElem?_cons_zero]; rfl
    · rfl
    · intro w hSw; (try dsimp only at hSw); have hC := fun (b o : Nat) (h : b < w1.heap.size) => Below.cell hSw (p := ⟨b, o, none⟩) h; go_simp <;> with_reducible rfl
    (try simp only [Act.put, List.setIfInBounds_toArray, List.set_cons_zero, List.set_cons_succ])
    refine PX.wpAnyY_one (i := 19) (o := ?_) (by kernel_rfl) ?_ (fun Kq hKq => ?_)
    rotate_left
    · simp only [List.getElem?_toArray, List.getElem?_cons_succ, List.getElem?_cons_zero]; rfl
    go_simp
    (with_reducible refine (CS.out _).mono ?_)
    rintro e w2 ⟨rfl, bqw2⟩
    have Hw2 := Lib.hid (thence hHeld bqw2 (Nat.le_refl _))
    clear bqw2
    go_wp2_with fail
    refine hKq.out _ _ (Hw2.out) (fun hHeld => ?_)
    clear hKq Kq
    (try simp only [Act.put, List.setIfInBounds_toArray, List.set_cons_zero, List.set_cons_succ])
    refine PX.wpAnyY_one (i := 20) (o := ?_) (by kernel_rfl) ?_ (fun Kq hKq => ?_)
    rotate_left
    · simp only [List.getElem?_toArray, List.getElem?_cons_succ, List.getElem?_cons_zero]; rfl
    go_simp
    refine hKq.out _ _ (hHeld) (fun hHeld => ?_)
    clear hKq Kq
    (try simp only [Act.put, List.setIfInBounds_toArray, List.set_cons_zero, List.set_cons_succ])
    refine PX.wpAnyY_one (i := 21) (o := ?_) (by kernel_rfl) ?_ (fun Kq hKq => ?_)
    rotate_left
    · simp only [List.getElem?_toArray, List.getElem?_cons_succ, List.getElem?_cons_zero]; rfl
    go_simp
    refine hKq.out _ _ (hHeld) (fun hHeld => ?_)
    clear hKq Kq
    (try simp only [Act.put, List.setIfInBounds_toArray, List.set_cons_zero, List.set_cons_succ])
    refine PX.wpAnyY_free (i := 22) (o := ?_) (by kernel_rfl) (by kernel_rfl) ?_ (fun Kq hKq => ?_)
    rotate_left
    · simp only [List.getElem?_toArray, List.getElem?_cons_succ, List.getElem?_cons_zero]; rfl
    go_simp
    refine hKq.out _ _ ?_
    clear hKq Kq
    (try simp only [Act.put, List.setIfInBounds_toArray, List.set_cons_zero, List.set_cons_succ])
    refine PX.wpAnyY_done (by kernel_rfl) ?_ _
    refine NoPanic.normal ?_
    have HE := Lib.hid (thence B1.out Hw2.out (Nat.le_refl _))
    clear hHeld
    go_wp2_with fail
    go_ret
    exact ⟨rfl, HE.out⟩

set_option maxHeartbeats 1000000 in
theorem refLCheck_any (id ev : Nat) (mem chunk rows log me lost done : Int) (op : Bool) (w : World) :
    Calls Try.prog 16 #[.agg #[.int .u32 (id : Int), .int .u32 (ev : Int), .int .i64 mem, .int .i64 chunk, .int .i64 rows, .int .i64 log, .int .i64 me, .int .i64 lost, .int .i64 done, .bool op]] w fun e w' => e = .returned (.int .i64 ((Lab.code ⟨id, ev, mem, chunk, rows, log, me, lost, done, op⟩ : Nat) : Int)) ∧ Below w.heap.size w w' := by
  have CM := Lib.hid (refLMay_any id ev mem chunk rows log me lost done op)
  have B0 : Hid (Below w.heap.size w (w.alloc (.cells #[.int .u32 (id : Int), .int .u32 (ev : Int), .int .i64 mem, .int .i64 chunk, .int .i64 rows, .int .i64 log, .int .i64 me, .int .i64 lost, .int .i64 done, .bool op] 28))) := (Below.refl _ _).alloc (Nat.le_refl _) _
  cases hm : Lab.may ⟨id, ev, mem, chunk, rows, log, me, lost, done, op⟩ with
  | true =>
    rw [LB.code_yes hm]
    rw [hm] at CM
    clear hm
    go_enter Try.func16, Try.ntmps16
    go_wp2_with fail
    (with_reducible refine (CM.out _).mono ?_)
    rintro e w1 ⟨rfl, b1⟩
    have B1 := Lib.hid (thence B0.out b1 (Nat.le_refl _))
    clear b1
    go_wp2_with fail
    go_ret
    exact ⟨rfl, B1.out⟩
  | false =>
    rw [LB.code_no hm]
    rw [hm] at CM
    clear hm
    go_enter Try.func16, Try.ntmps16
    go_wp2_with fail
    (with_reducible refine (CM.out _).mono ?_)
    rintro e w1 ⟨rfl, b1⟩
    have B1 := Lib.hid (thence B0.out b1 (Nat.le_refl _))
    clear b1
    go_wp2_with fail
    go_ret
    exact ⟨rfl, B1.out⟩
end Go.Proofs.Ytleaphlignfkjaa.PW
