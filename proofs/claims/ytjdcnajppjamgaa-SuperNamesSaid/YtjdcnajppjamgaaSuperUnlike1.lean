/-
  Layer 10's laws, given what the program's calls answer.
-/
import Derived.Test.YtjdcnajppjamgaaSuperLaws
import Derived.Test.YtjdcnajppjamgaaLabelMath
import Derived.Deep.QuietTactic
import Derived.BigQuiet
namespace Go.Proofs.Ytjdcnajppjamgaa.PW
open Go.RowKit
open SB (Sup)
set_option linter.unusedVariables false
set_option linter.unusedSimpArgs false
set_option maxRecDepth 100000

theorem Bx.ten' {w : World} {g : Nat} {a b c d e f x y z u : Value} (h : Bx w g [a, b, c, d, e, f, x, y, z, u]) : w.cell? ⟨g, 0, none⟩ = some a ∧ w.cell? ⟨g, 1, none⟩ = some b ∧ w.cell? ⟨g, 2, none⟩ = some c ∧ w.cell? ⟨g, 3, none⟩ = some d ∧ w.cell? ⟨g, 4, none⟩ = some e ∧ w.cell? ⟨g, 5, none⟩ = some f ∧ w.cell? ⟨g, 6, none⟩ = some x ∧ w.cell? ⟨g, 7, none⟩ = some y ∧ w.cell? ⟨g, 8, none⟩ = some z ∧ w.cell? ⟨g, 9, none⟩ = some u :=
  ⟨h.cell 0, h.cell 1, h.cell 2, h.cell 3, h.cell 4, h.cell 5, h.cell 6, h.cell 7, h.cell 8, h.cell 9⟩
/-- What the program's calls of labels answer that a super's law makes. -/
structure LabIO : Prop where
  yes : ∀ (li ev : Nat) (mem chunk rows log me lost done : Int) (op : Bool) (w : World), li < 4294967296 → LB.Lab.mayP ⟨li, ev, mem, chunk, rows, log, me, lost, done, op⟩ → Calls Try.prog 18 #[.agg #[.int .u32 (li : Int), .int .u32 (ev : Int), .int .i64 mem, .int .i64 chunk, .int .i64 rows, .int .i64 log, .int .i64 me, .int .i64 lost, .int .i64 done, .bool op]] w fun e w' => ∃ a c, e = .returned (.tuple #[.slice a 128 c, .int .i64 0]) ∧ Rd w'.heap.size w' a 128 c (LB.Lab.block ⟨li, ev, mem, chunk, rows, log, me, lost, done, op⟩) ∧ Mine w.heap.size w' a ∧ Below w.heap.size w w'
  no : ∀ (li ev : Nat) (mem chunk rows log me lost done : Int) (op : Bool) (w : World), li < 4294967296 → LB.Lab.may ⟨li, ev, mem, chunk, rows, log, me, lost, done, op⟩ = false → Calls Try.prog 18 #[.agg #[.int .u32 (li : Int), .int .u32 (ev : Int), .int .i64 mem, .int .i64 chunk, .int .i64 rows, .int .i64 log, .int .i64 me, .int .i64 lost, .int .i64 done, .bool op]] w fun e w' => ∃ a c, e = .returned (.tuple #[.slice a 0 c, .int .i64 8]) ∧ Rd w'.heap.size w' a 0 c [] ∧ Below w.heap.size w w'
  read : ∀ (a : Option Addr) (len cap : Nat) (l : List Nat) (w : World), Rd w.heap.size w a len cap l → (LB.rd l).2 = 90 → Calls Try.prog 17 #[.slice a len cap] w fun e w' => e = .returned (.tuple #[.agg #[.int .u32 0, .int .u32 0, .int .i64 0, .int .i64 0, .int .i64 0, .int .i64 0, .int .i64 0, .int .i64 0, .int .i64 0, .bool false], .int .i64 90]) ∧ Below w.heap.size w w'

set_option maxHeartbeats 4000000 in
theorem superUnlike_walk (I : SuperIs) (J : LabIO) (id age seq : Nat) (tail : Int) (id' age' seq' : Nat) (tail' : Int) (li ev : Nat) (mem chunk rows log me lost done : Int) (op : Bool) (w : World) (hid : id < 4294967296) (hid' : id' < 4294967296) (hli : li < 4294967296) :
    Calls Try.prog 7 #[.agg #[.int .u32 (id : Int), .int .u32 (age : Int), .int .u32 (seq : Int), .int .i64 tail], .agg #[.int .u32 (id' : Int), .int .u32 (age' : Int), .int .u32 (seq' : Int), .int .i64 tail'], .agg #[.int .u32 (li : Int), .int .u32 (ev : Int), .int .i64 mem, .int .i64 chunk, .int .i64 rows, .int .i64 log, .int .i64 me, .int .i64 lost, .int .i64 done, .bool op]] w fun e w' => e = .returned (.bool true) ∧ Below w.heap.size w w' := by
  have CA : Hid (∀ w1, Calls Try.prog 12 #[] w1 fun e w' => e = .returned (.bool true) ∧ Below w1.heap.size w1 w') := alive10_any I
  have ha1 : Below w.heap.size w (w.alloc (.cells #[.int .u32 (id : Int), .int .u32 (age : Int), .int .u32 (seq : Int), .int .i64 tail] 28)) := (Below.refl _ _).alloc (Nat.le_refl _) _
  have ha2 : Below (w.alloc (.cells #[.int .u32 (id : Int), .int .u32 (age : Int), .int .u32 (seq : Int), .int .i64 tail] 28)).heap.size (w.alloc (.cells #[.int .u32 (id : Int), .int .u32 (age : Int), .int .u32 (seq : Int), .int .i64 tail] 28)) ((w.alloc (.cells #[.int .u32 (id : Int), .int .u32 (age : Int), .int .u32 (seq : Int), .int .i64 tail] 28)).alloc (.cells #[.int .u32 (id' : Int), .int .u32 (age' : Int), .int .u32 (seq' : Int), .int .i64 tail'] 28)) := (Below.refl _ _).alloc (Nat.le_refl _) _
  have ha3 : Below ((w.alloc (.cells #[.int .u32 (id : Int), .int .u32 (age : Int), .int .u32 (seq : Int), .int .i64 tail] 28)).alloc (.cells #[.int .u32 (id' : Int), .int .u32 (age' : Int), .int .u32 (seq' : Int), .int .i64 tail'] 28)).heap.size ((w.alloc (.cells #[.int .u32 (id : Int), .int .u32 (age : Int), .int .u32 (seq : Int), .int .i64 tail] 28)).alloc (.cells #[.int .u32 (id' : Int), .int .u32 (age' : Int), .int .u32 (seq' : Int), .int .i64 tail'] 28)) (((w.alloc (.cells #[.int .u32 (id : Int), .int .u32 (age : Int), .int .u32 (seq : Int), .int .i64 tail] 28)).alloc (.cells #[.int .u32 (id' : Int), .int .u32 (age' : Int), .int .u32 (seq' : Int), .int .i64 tail'] 28)).alloc (.cells #[.int .u32 (li : Int), .int .u32 (ev : Int), .int .i64 mem, .int .i64 chunk, .int .i64 rows, .int .i64 log, .int .i64 me, .int .i64 lost, .int .i64 done, .bool op] 43)) := (Below.refl _ _).alloc (Nat.le_refl _) _
  have e1 : (w.alloc (.cells #[.int .u32 (id : Int), .int .u32 (age : Int), .int .u32 (seq : Int), .int .i64 tail] 28)).heap.size = w.heap.size + 1 := by simp
  have e2 : ((w.alloc (.cells #[.int .u32 (id : Int), .int .u32 (age : Int), .int .u32 (seq : Int), .int .i64 tail] 28)).alloc (.cells #[.int .u32 (id' : Int), .int .u32 (age' : Int), .int .u32 (seq' : Int), .int .i64 tail'] 28)).heap.size = w.heap.size + 1 + 1 := by simp
  have B0 : Hid (Below w.heap.size w (((w.alloc (.cells #[.int .u32 (id : Int), .int .u32 (age : Int), .int .u32 (seq : Int), .int .i64 tail] 28)).alloc (.cells #[.int .u32 (id' : Int), .int .u32 (age' : Int), .int .u32 (seq' : Int), .int .i64 tail'] 28)).alloc (.cells #[.int .u32 (li : Int), .int .u32 (ev : Int), .int .i64 mem, .int .i64 chunk, .int .i64 rows, .int .i64 log, .int .i64 me, .int .i64 lost, .int .i64 done, .bool op] 43))) := thence (thence ha1 ha2 (Nat.le_refl _)) ha3 (Nat.le_refl _)
  have BX : Hid (Bx (((w.alloc (.cells #[.int .u32 (id : Int), .int .u32 (age : Int), .int .u32 (seq : Int), .int .i64 tail] 28)).alloc (.cells #[.int .u32 (id' : Int), .int .u32 (age' : Int), .int .u32 (seq' : Int), .int .i64 tail'] 28)).alloc (.cells #[.int .u32 (li : Int), .int .u32 (ev : Int), .int .i64 mem, .int .i64 chunk, .int .i64 rows, .int .i64 log, .int .i64 me, .int .i64 lost, .int .i64 done, .bool op] 43)) w.heap.size [.int .u32 (id : Int), .int .u32 (age : Int), .int .u32 (seq : Int), .int .i64 tail]) := ((Bx.new w [.int .u32 (id : Int), .int .u32 (age : Int), .int .u32 (seq : Int), .int .i64 tail] 28).here ha2).here ha3
  have BY : Hid (Bx (((w.alloc (.cells #[.int .u32 (id : Int), .int .u32 (age : Int), .int .u32 (seq : Int), .int .i64 tail] 28)).alloc (.cells #[.int .u32 (id' : Int), .int .u32 (age' : Int), .int .u32 (seq' : Int), .int .i64 tail'] 28)).alloc (.cells #[.int .u32 (li : Int), .int .u32 (ev : Int), .int .i64 mem, .int .i64 chunk, .int .i64 rows, .int .i64 log, .int .i64 me, .int .i64 lost, .int .i64 done, .bool op] 43)) (w.heap.size + 1) [.int .u32 (id' : Int), .int .u32 (age' : Int), .int .u32 (seq' : Int), .int .i64 tail']) := by
    have h := (Bx.new (w.alloc (.cells #[.int .u32 (id : Int), .int .u32 (age : Int), .int .u32 (seq : Int), .int .i64 tail] 28)) [.int .u32 (id' : Int), .int .u32 (age' : Int), .int .u32 (seq' : Int), .int .i64 tail'] 28).here ha3
    rw [e1] at h
    exact h
  have BZ : Hid (Bx (((w.alloc (.cells #[.int .u32 (id : Int), .int .u32 (age : Int), .int .u32 (seq : Int), .int .i64 tail] 28)).alloc (.cells #[.int .u32 (id' : Int), .int .u32 (age' : Int), .int .u32 (seq' : Int), .int .i64 tail'] 28)).alloc (.cells #[.int .u32 (li : Int), .int .u32 (ev : Int), .int .i64 mem, .int .i64 chunk, .int .i64 rows, .int .i64 log, .int .i64 me, .int .i64 lost, .int .i64 done, .bool op] 43)) (w.heap.size + 1 + 1) [.int .u32 (li : Int), .int .u32 (ev : Int), .int .i64 mem, .int .i64 chunk, .int .i64 rows, .int .i64 log, .int .i64 me, .int .i64 lost, .int .i64 done, .bool op]) := by
    have h := Bx.new ((w.alloc (.cells #[.int .u32 (id : Int), .int .u32 (age : Int), .int .u32 (seq : Int), .int .i64 tail] 28)).alloc (.cells #[.int .u32 (id' : Int), .int .u32 (age' : Int), .int .u32 (seq' : Int), .int .i64 tail'] 28)) [.int .u32 (li : Int), .int .u32 (ev : Int), .int .i64 mem, .int .i64 chunk, .int .i64 rows, .int .i64 log, .int .i64 me, .int .i64 lost, .int .i64 done, .bool op] 43
    rw [e2] at h
    exact h
  clear ha1 ha2 ha3 e1 e2
  have HI := Lib.hid hid
  have HJ := Lib.hid hid'
  have HK := Lib.hid hli
  clear hid hid' hli
  cases hm : Sup.may ⟨id, age, seq, tail⟩ with
  | true =>
    cases hn : Sup.may ⟨id', age', seq', tail'⟩ with
    | true =>
      by_cases q0 : id = id'
      case neg =>
        have n1 : ((id : Int) == (id' : Int)) = false := beq_eq_false_iff_ne.2 (fun e => q0 (by omega))
        have n2 : ¬ (id : Int) = (id' : Int) := fun e => q0 (by omega)
        cases ho : LB.Lab.may ⟨li, ev, mem, chunk, rows, log, me, lost, done, op⟩ with
        | true =>
          have CW := Lib.hid (fun w1 => I.yes id age seq tail w1 HI.out (SB.may_iff.1 hm))
          have CV := Lib.hid (fun w1 => I.yes id' age' seq' tail' w1 HJ.out (SB.may_iff.1 hn))
          have CL := Lib.hid (fun w1 => J.yes li ev mem chunk rows log me lost done op w1 HK.out (LB.may_iff.1 ho))
          have KL : Hid ((Sup.block ⟨id, age, seq, tail⟩).length = 128) := SB.block_length _
          have KF : Hid ((Sup.block ⟨id, age, seq, tail⟩).getD 0 0 = 83) := by show _ = _; rw [SB.block_get _ _ (by decide)]; rfl
          have QL : Hid ((LB.Lab.block ⟨li, ev, mem, chunk, rows, log, me, lost, done, op⟩).length = 128) := LB.block_length _
          have QF : Hid ((LB.Lab.block ⟨li, ev, mem, chunk, rows, log, me, lost, done, op⟩).getD 0 0 = 76) := by show _ = _; rw [LB.block_get _ _ (by decide)]; rfl
          generalize LB.Lab.block ⟨li, ev, mem, chunk, rows, log, me, lost, done, op⟩ = Q at *
          have HNE : Hid (Sup.block ⟨id, age, seq, tail⟩ ≠ Sup.block ⟨id', age', seq', tail'⟩) := fun e => by have := (SB.block_inj (SB.may_iff.1 hm) (SB.may_iff.1 hn) HI.out HJ.out).1 e; injection this; contradiction
          generalize Sup.block ⟨id, age, seq, tail⟩ = K at *
          generalize Sup.block ⟨id', age', seq', tail'⟩ = K' at *
          clear hm hn ho
          go_enter Try.func7, Try.ntmps7
          go_wp2_with fail
          generalize (((w.alloc (.cells #[.int .u32 (id : Int), .int .u32 (age : Int), .int .u32 (seq : Int), .int .i64 tail] 28)).alloc (.cells #[.int .u32 (id' : Int), .int .u32 (age' : Int), .int .u32 (seq' : Int), .int .i64 tail'] 28)).alloc (.cells #[.int .u32 (li : Int), .int .u32 (ev : Int), .int .i64 mem, .int .i64 chunk, .int .i64 rows, .int .i64 log, .int .i64 me, .int .i64 lost, .int .i64 done, .bool op] 43)) = W0 at *
          obtain ⟨c0, c1, c2, c3⟩ := BX.out.four'
          have ltBX := BX.out.lt
          obtain ⟨d0, d1, d2, d3⟩ := BY.out.four'
          have ltBY := BY.out.lt
          obtain ⟨l0, l1, l2, l3, l4, l5, l6, l7, l8, l9⟩ := BZ.out.ten'
          have ltBZ := BZ.out.lt
          (with_reducible refine (CA.out _).mono ?_)
          rintro e w1 ⟨rfl, b1⟩
          clear c0 c1 c2 c3 d0 d1 d2 d3 l0 l1 l2 l3 l4 l5 l6 l7 l8 l9 ltBX ltBY ltBZ
          replace BX := Lib.hid (BX.out.here b1)
          replace BY := Lib.hid (BY.out.here b1)
          replace BZ := Lib.hid (BZ.out.here b1)
          have B1 := Lib.hid (thence B0.out b1 (Nat.le_refl _))
          clear b1 B0
          obtain ⟨c0, c1, c2, c3⟩ := BX.out.four'
          have ltBX := BX.out.lt
          obtain ⟨d0, d1, d2, d3⟩ := BY.out.four'
          have ltBY := BY.out.lt
          obtain ⟨l0, l1, l2, l3, l4, l5, l6, l7, l8, l9⟩ := BZ.out.ten'
          have ltBZ := BZ.out.lt
          go_wp2_with fail
          (with_reducible refine (CW.out _).mono ?_)
          rintro e w2 ⟨a1, k1, rfl, r1, -, b2⟩
          clear c0 c1 c2 c3 d0 d1 d2 d3 l0 l1 l2 l3 l4 l5 l6 l7 l8 l9 ltBX ltBY ltBZ
          replace BX := Lib.hid (BX.out.here b2)
          replace BY := Lib.hid (BY.out.here b2)
          replace BZ := Lib.hid (BZ.out.here b2)
          have B2 := Lib.hid (thence B1.out b2 (Nat.le_refl _))
          have R1 := Lib.hid r1
          clear r1
          clear b2 B1
          obtain ⟨c0, c1, c2, c3⟩ := BX.out.four'
          have ltBX := BX.out.lt
          obtain ⟨d0, d1, d2, d3⟩ := BY.out.four'
          have ltBY := BY.out.lt
          obtain ⟨l0, l1, l2, l3, l4, l5, l6, l7, l8, l9⟩ := BZ.out.ten'
          have ltBZ := BZ.out.lt
          go_wp2_with fail
          (with_reducible refine (CV.out _).mono ?_)
          rintro e w3 ⟨a2, k2, rfl, r2, -, b3⟩
          clear c0 c1 c2 c3 d0 d1 d2 d3 l0 l1 l2 l3 l4 l5 l6 l7 l8 l9 ltBX ltBY ltBZ
          replace BX := Lib.hid (BX.out.here b3)
          replace BY := Lib.hid (BY.out.here b3)
          replace BZ := Lib.hid (BZ.out.here b3)
          replace R1 := Lib.hid (R1.out.here b3)
          have B3 := Lib.hid (thence B2.out b3 (Nat.le_refl _))
          have R2 := Lib.hid r2
          clear r2
          clear b3 B2
          obtain ⟨c0, c1, c2, c3⟩ := BX.out.four'
          have ltBX := BX.out.lt
          obtain ⟨d0, d1, d2, d3⟩ := BY.out.four'
          have ltBY := BY.out.lt
          obtain ⟨l0, l1, l2, l3, l4, l5, l6, l7, l8, l9⟩ := BZ.out.ten'
          have ltBZ := BZ.out.lt
          have T1 := fun nq => text_is (w3.drewN nq) _ _ _ _ (R1.out.drewN nq)
          have T2 := fun nq => text_is (w3.drewN nq) _ _ _ _ (R2.out.drewN nq)
          have HS := str_apart R1.out.byt R2.out.byt HNE.out
          go_wp2_with fail
          go_quiet (fail)
          rename_i nq
          clear c0 c1 c2 c3 d0 d1 d2 d3 l0 l1 l2 l3 l4 l5 l6 l7 l8 l9 ltBX ltBY ltBZ
          replace BX := Lib.hid (BX.out.here (below_drewN (Below.refl _ _) nq))
          replace BY := Lib.hid (BY.out.here (below_drewN (Below.refl _ _) nq))
          replace BZ := Lib.hid (BZ.out.here (below_drewN (Below.refl _ _) nq))
          replace R1 := Lib.hid (R1.out.here (below_drewN (Below.refl _ _) nq))
          replace R2 := Lib.hid (R2.out.here (below_drewN (Below.refl _ _) nq))
          replace B3 := Lib.hid (below_drewN B3.out nq)
          clear T1 T2 HS
          generalize w3.drewN nq = w3' at *
          obtain ⟨c0, c1, c2, c3⟩ := BX.out.four'
          have ltBX := BX.out.lt
          obtain ⟨d0, d1, d2, d3⟩ := BY.out.four'
          have ltBY := BY.out.lt
          obtain ⟨l0, l1, l2, l3, l4, l5, l6, l7, l8, l9⟩ := BZ.out.ten'
          have ltBZ := BZ.out.lt
          have CR : Hid (∀ (a : Option Addr) (n : Nat) (w1 : World), Rd w1.heap.size w1 a 128 n K → Calls Try.prog 17 #[.slice a 128 n] w1 fun e w' => e = .returned (.tuple #[.agg #[.int .u32 0, .int .u32 0, .int .i64 0, .int .i64 0, .int .i64 0, .int .i64 0, .int .i64 0, .int .i64 0, .int .i64 0, .bool false], .int .i64 90]) ∧ Below w1.heap.size w1 w') := fun a n w1 hr => J.read a 128 n K w1 hr (by rw [LB.rd_first (.inr KL.out) (by rw [KF.out]; decide)])
          go_wp2_with fail
          (with_reducible refine (CR.out _ _ _ R1.out).mono ?_)
          rintro e w4 ⟨rfl, b4⟩
          clear c0 c1 c2 c3 d0 d1 d2 d3 l0 l1 l2 l3 l4 l5 l6 l7 l8 l9 ltBX ltBY ltBZ
          replace BX := Lib.hid (BX.out.here b4)
          replace BY := Lib.hid (BY.out.here b4)
          replace BZ := Lib.hid (BZ.out.here b4)
          replace R1 := Lib.hid (R1.out.here b4)
          replace R2 := Lib.hid (R2.out.here b4)
          have ha4 : Below w4.heap.size w4 (w4.alloc (.cells #[.int .u32 0, .int .u32 0, .int .i64 0, .int .i64 0, .int .i64 0, .int .i64 0, .int .i64 0, .int .i64 0, .int .i64 0, .bool false] 43)) := (Below.refl _ _).alloc (Nat.le_refl _) _
          replace BX := Lib.hid (BX.out.here ha4)
          replace BY := Lib.hid (BY.out.here ha4)
          replace BZ := Lib.hid (BZ.out.here ha4)
          replace R1 := Lib.hid (R1.out.here ha4)
          replace R2 := Lib.hid (R2.out.here ha4)
          have BL : Hid (Bx (w4.alloc (.cells #[.int .u32 0, .int .u32 0, .int .i64 0, .int .i64 0, .int .i64 0, .int .i64 0, .int .i64 0, .int .i64 0, .int .i64 0, .bool false] 43)) w4.heap.size [.int .u32 0, .int .u32 0, .int .i64 0, .int .i64 0, .int .i64 0, .int .i64 0, .int .i64 0, .int .i64 0, .int .i64 0, .bool false]) := Bx.new w4 [.int .u32 0, .int .u32 0, .int .i64 0, .int .i64 0, .int .i64 0, .int .i64 0, .int .i64 0, .int .i64 0, .int .i64 0, .bool false] 43
          have B4 := Lib.hid (thence B3.out (thence b4 ha4 (Nat.le_refl _)) (Nat.le_refl _))
          clear ha4
          clear b4 B3
          obtain ⟨c0, c1, c2, c3⟩ := BX.out.four'
          have ltBX := BX.out.lt
          obtain ⟨d0, d1, d2, d3⟩ := BY.out.four'
          have ltBY := BY.out.lt
          obtain ⟨l0, l1, l2, l3, l4, l5, l6, l7, l8, l9⟩ := BZ.out.ten'
          have ltBZ := BZ.out.lt
          go_wp2_with fail
          (with_reducible refine (CL.out _).mono ?_)
          rintro e w5 ⟨a5, k5, rfl, r5, -, b5⟩
          clear c0 c1 c2 c3 d0 d1 d2 d3 l0 l1 l2 l3 l4 l5 l6 l7 l8 l9 ltBX ltBY ltBZ
          replace BX := Lib.hid (BX.out.here b5)
          replace BY := Lib.hid (BY.out.here b5)
          replace BZ := Lib.hid (BZ.out.here b5)
          replace R1 := Lib.hid (R1.out.here b5)
          replace R2 := Lib.hid (R2.out.here b5)
          replace BL := Lib.hid (BL.out.here b5)
          have B5 := Lib.hid (thence B4.out b5 (Nat.le_refl _))
          have R5 := Lib.hid r5
          clear r5
          clear b5 B4
          obtain ⟨c0, c1, c2, c3⟩ := BX.out.four'
          have ltBX := BX.out.lt
          obtain ⟨d0, d1, d2, d3⟩ := BY.out.four'
          have ltBY := BY.out.lt
          obtain ⟨l0, l1, l2, l3, l4, l5, l6, l7, l8, l9⟩ := BZ.out.ten'
          have ltBZ := BZ.out.lt
          have CS : Hid (∀ (a : Option Addr) (n : Nat) (w1 : World), Rd w1.heap.size w1 a 128 n Q → Calls Try.prog 11 #[.slice a 128 n] w1 fun e w' => e = .returned (.tuple #[.agg #[.int .u32 0, .int .u32 0, .int .u32 0, .int .i64 0], .int .i64 90]) ∧ Below w1.heap.size w1 w') := fun a n w1 hr => by have := I.read a 128 n Q w1 hr; rw [SB.rd_first (.inr QL.out) (by rw [QF.out]; decide)] at this; exact this
          go_wp2_with fail
          (with_reducible refine (CS.out _ _ _ R5.out).mono ?_)
          rintro e w6 ⟨rfl, b6⟩
          clear c0 c1 c2 c3 d0 d1 d2 d3 l0 l1 l2 l3 l4 l5 l6 l7 l8 l9 ltBX ltBY ltBZ
          replace BX := Lib.hid (BX.out.here b6)
          replace BY := Lib.hid (BY.out.here b6)
          replace BZ := Lib.hid (BZ.out.here b6)
          replace R1 := Lib.hid (R1.out.here b6)
          replace R2 := Lib.hid (R2.out.here b6)
          replace BL := Lib.hid (BL.out.here b6)
          replace R5 := Lib.hid (R5.out.here b6)
          have ha6 : Below w6.heap.size w6 (w6.alloc (.cells #[.int .u32 0, .int .u32 0, .int .u32 0, .int .i64 0] 28)) := (Below.refl _ _).alloc (Nat.le_refl _) _
          replace BX := Lib.hid (BX.out.here ha6)
          replace BY := Lib.hid (BY.out.here ha6)
          replace BZ := Lib.hid (BZ.out.here ha6)
          replace R1 := Lib.hid (R1.out.here ha6)
          replace R2 := Lib.hid (R2.out.here ha6)
          replace BL := Lib.hid (BL.out.here ha6)
          replace R5 := Lib.hid (R5.out.here ha6)
          have BM : Hid (Bx (w6.alloc (.cells #[.int .u32 0, .int .u32 0, .int .u32 0, .int .i64 0] 28)) w6.heap.size [.int .u32 0, .int .u32 0, .int .u32 0, .int .i64 0]) := Bx.new w6 [.int .u32 0, .int .u32 0, .int .u32 0, .int .i64 0] 28
          have B6 := Lib.hid (thence B5.out (thence b6 ha6 (Nat.le_refl _)) (Nat.le_refl _))
          clear ha6
          clear b6 B5
          obtain ⟨c0, c1, c2, c3⟩ := BX.out.four'
          have ltBX := BX.out.lt
          obtain ⟨d0, d1, d2, d3⟩ := BY.out.four'
          have ltBY := BY.out.lt
          obtain ⟨l0, l1, l2, l3, l4, l5, l6, l7, l8, l9⟩ := BZ.out.ten'
          have ltBZ := BZ.out.lt
          go_wp2_with fail
          go_ret
          exact ⟨rfl, B6.out⟩
        | false =>
          have CW := Lib.hid (fun w1 => I.yes id age seq tail w1 HI.out (SB.may_iff.1 hm))
          have CV := Lib.hid (fun w1 => I.yes id' age' seq' tail' w1 HJ.out (SB.may_iff.1 hn))
          have CL := Lib.hid (fun w1 => J.no li ev mem chunk rows log me lost done op w1 HK.out ho)
          have KL : Hid ((Sup.block ⟨id, age, seq, tail⟩).length = 128) := SB.block_length _
          have KF : Hid ((Sup.block ⟨id, age, seq, tail⟩).getD 0 0 = 83) := by show _ = _; rw [SB.block_get _ _ (by decide)]; rfl
          have HNE : Hid (Sup.block ⟨id, age, seq, tail⟩ ≠ Sup.block ⟨id', age', seq', tail'⟩) := fun e => by have := (SB.block_inj (SB.may_iff.1 hm) (SB.may_iff.1 hn) HI.out HJ.out).1 e; injection this; contradiction
          generalize Sup.block ⟨id, age, seq, tail⟩ = K at *
          generalize Sup.block ⟨id', age', seq', tail'⟩ = K' at *
          clear hm hn ho
          go_enter Try.func7, Try.ntmps7
          go_wp2_with fail
          generalize (((w.alloc (.cells #[.int .u32 (id : Int), .int .u32 (age : Int), .int .u32 (seq : Int), .int .i64 tail] 28)).alloc (.cells #[.int .u32 (id' : Int), .int .u32 (age' : Int), .int .u32 (seq' : Int), .int .i64 tail'] 28)).alloc (.cells #[.int .u32 (li : Int), .int .u32 (ev : Int), .int .i64 mem, .int .i64 chunk, .int .i64 rows, .int .i64 log, .int .i64 me, .int .i64 lost, .int .i64 done, .bool op] 43)) = W0 at *
          obtain ⟨c0, c1, c2, c3⟩ := BX.out.four'
          have ltBX := BX.out.lt
          obtain ⟨d0, d1, d2, d3⟩ := BY.out.four'
          have ltBY := BY.out.lt
          obtain ⟨l0, l1, l2, l3, l4, l5, l6, l7, l8, l9⟩ := BZ.out.ten'
          have ltBZ := BZ.out.lt
          (with_reducible refine (CA.out _).mono ?_)
          rintro e w1 ⟨rfl, b1⟩
          clear c0 c1 c2 c3 d0 d1 d2 d3 l0 l1 l2 l3 l4 l5 l6 l7 l8 l9 ltBX ltBY ltBZ
          replace BX := Lib.hid (BX.out.here b1)
          replace BY := Lib.hid (BY.out.here b1)
          replace BZ := Lib.hid (BZ.out.here b1)
          have B1 := Lib.hid (thence B0.out b1 (Nat.le_refl _))
          clear b1 B0
          obtain ⟨c0, c1, c2, c3⟩ := BX.out.four'
          have ltBX := BX.out.lt
          obtain ⟨d0, d1, d2, d3⟩ := BY.out.four'
          have ltBY := BY.out.lt
          obtain ⟨l0, l1, l2, l3, l4, l5, l6, l7, l8, l9⟩ := BZ.out.ten'
          have ltBZ := BZ.out.lt
          go_wp2_with fail
          (with_reducible refine (CW.out _).mono ?_)
          rintro e w2 ⟨a1, k1, rfl, r1, -, b2⟩
          clear c0 c1 c2 c3 d0 d1 d2 d3 l0 l1 l2 l3 l4 l5 l6 l7 l8 l9 ltBX ltBY ltBZ
          replace BX := Lib.hid (BX.out.here b2)
          replace BY := Lib.hid (BY.out.here b2)
          replace BZ := Lib.hid (BZ.out.here b2)
          have B2 := Lib.hid (thence B1.out b2 (Nat.le_refl _))
          have R1 := Lib.hid r1
          clear r1
          clear b2 B1
          obtain ⟨c0, c1, c2, c3⟩ := BX.out.four'
          have ltBX := BX.out.lt
          obtain ⟨d0, d1, d2, d3⟩ := BY.out.four'
          have ltBY := BY.out.lt
          obtain ⟨l0, l1, l2, l3, l4, l5, l6, l7, l8, l9⟩ := BZ.out.ten'
          have ltBZ := BZ.out.lt
          go_wp2_with fail
          (with_reducible refine (CV.out _).mono ?_)
          rintro e w3 ⟨a2, k2, rfl, r2, -, b3⟩
          clear c0 c1 c2 c3 d0 d1 d2 d3 l0 l1 l2 l3 l4 l5 l6 l7 l8 l9 ltBX ltBY ltBZ
          replace BX := Lib.hid (BX.out.here b3)
          replace BY := Lib.hid (BY.out.here b3)
          replace BZ := Lib.hid (BZ.out.here b3)
          replace R1 := Lib.hid (R1.out.here b3)
          have B3 := Lib.hid (thence B2.out b3 (Nat.le_refl _))
          have R2 := Lib.hid r2
          clear r2
          clear b3 B2
          obtain ⟨c0, c1, c2, c3⟩ := BX.out.four'
          have ltBX := BX.out.lt
          obtain ⟨d0, d1, d2, d3⟩ := BY.out.four'
          have ltBY := BY.out.lt
          obtain ⟨l0, l1, l2, l3, l4, l5, l6, l7, l8, l9⟩ := BZ.out.ten'
          have ltBZ := BZ.out.lt
          have T1 := fun nq => text_is (w3.drewN nq) _ _ _ _ (R1.out.drewN nq)
          have T2 := fun nq => text_is (w3.drewN nq) _ _ _ _ (R2.out.drewN nq)
          have HS := str_apart R1.out.byt R2.out.byt HNE.out
          go_wp2_with fail
          go_quiet (fail)
          rename_i nq
          clear c0 c1 c2 c3 d0 d1 d2 d3 l0 l1 l2 l3 l4 l5 l6 l7 l8 l9 ltBX ltBY ltBZ
          replace BX := Lib.hid (BX.out.here (below_drewN (Below.refl _ _) nq))
          replace BY := Lib.hid (BY.out.here (below_drewN (Below.refl _ _) nq))
          replace BZ := Lib.hid (BZ.out.here (below_drewN (Below.refl _ _) nq))
          replace R1 := Lib.hid (R1.out.here (below_drewN (Below.refl _ _) nq))
          replace R2 := Lib.hid (R2.out.here (below_drewN (Below.refl _ _) nq))
          replace B3 := Lib.hid (below_drewN B3.out nq)
          clear T1 T2 HS
          generalize w3.drewN nq = w3' at *
          obtain ⟨c0, c1, c2, c3⟩ := BX.out.four'
          have ltBX := BX.out.lt
          obtain ⟨d0, d1, d2, d3⟩ := BY.out.four'
          have ltBY := BY.out.lt
          obtain ⟨l0, l1, l2, l3, l4, l5, l6, l7, l8, l9⟩ := BZ.out.ten'
          have ltBZ := BZ.out.lt
          have CR : Hid (∀ (a : Option Addr) (n : Nat) (w1 : World), Rd w1.heap.size w1 a 128 n K → Calls Try.prog 17 #[.slice a 128 n] w1 fun e w' => e = .returned (.tuple #[.agg #[.int .u32 0, .int .u32 0, .int .i64 0, .int .i64 0, .int .i64 0, .int .i64 0, .int .i64 0, .int .i64 0, .int .i64 0, .bool false], .int .i64 90]) ∧ Below w1.heap.size w1 w') := fun a n w1 hr => J.read a 128 n K w1 hr (by rw [LB.rd_first (.inr KL.out) (by rw [KF.out]; decide)])
          go_wp2_with fail
          (with_reducible refine (CR.out _ _ _ R1.out).mono ?_)
          rintro e w4 ⟨rfl, b4⟩
          clear c0 c1 c2 c3 d0 d1 d2 d3 l0 l1 l2 l3 l4 l5 l6 l7 l8 l9 ltBX ltBY ltBZ
          replace BX := Lib.hid (BX.out.here b4)
          replace BY := Lib.hid (BY.out.here b4)
          replace BZ := Lib.hid (BZ.out.here b4)
          replace R1 := Lib.hid (R1.out.here b4)
          replace R2 := Lib.hid (R2.out.here b4)
          have ha4 : Below w4.heap.size w4 (w4.alloc (.cells #[.int .u32 0, .int .u32 0, .int .i64 0, .int .i64 0, .int .i64 0, .int .i64 0, .int .i64 0, .int .i64 0, .int .i64 0, .bool false] 43)) := (Below.refl _ _).alloc (Nat.le_refl _) _
          replace BX := Lib.hid (BX.out.here ha4)
          replace BY := Lib.hid (BY.out.here ha4)
          replace BZ := Lib.hid (BZ.out.here ha4)
          replace R1 := Lib.hid (R1.out.here ha4)
          replace R2 := Lib.hid (R2.out.here ha4)
          have BL : Hid (Bx (w4.alloc (.cells #[.int .u32 0, .int .u32 0, .int .i64 0, .int .i64 0, .int .i64 0, .int .i64 0, .int .i64 0, .int .i64 0, .int .i64 0, .bool false] 43)) w4.heap.size [.int .u32 0, .int .u32 0, .int .i64 0, .int .i64 0, .int .i64 0, .int .i64 0, .int .i64 0, .int .i64 0, .int .i64 0, .bool false]) := Bx.new w4 [.int .u32 0, .int .u32 0, .int .i64 0, .int .i64 0, .int .i64 0, .int .i64 0, .int .i64 0, .int .i64 0, .int .i64 0, .bool false] 43
          have B4 := Lib.hid (thence B3.out (thence b4 ha4 (Nat.le_refl _)) (Nat.le_refl _))
          clear ha4
          clear b4 B3
          obtain ⟨c0, c1, c2, c3⟩ := BX.out.four'
          have ltBX := BX.out.lt
          obtain ⟨d0, d1, d2, d3⟩ := BY.out.four'
          have ltBY := BY.out.lt
          obtain ⟨l0, l1, l2, l3, l4, l5, l6, l7, l8, l9⟩ := BZ.out.ten'
          have ltBZ := BZ.out.lt
          go_wp2_with fail
          (with_reducible refine (CL.out _).mono ?_)
          rintro e w5 ⟨a5, k5, rfl, -, b5⟩
          clear c0 c1 c2 c3 d0 d1 d2 d3 l0 l1 l2 l3 l4 l5 l6 l7 l8 l9 ltBX ltBY ltBZ
          replace BX := Lib.hid (BX.out.here b5)
          replace BY := Lib.hid (BY.out.here b5)
          replace BZ := Lib.hid (BZ.out.here b5)
          replace R1 := Lib.hid (R1.out.here b5)
          replace R2 := Lib.hid (R2.out.here b5)
          replace BL := Lib.hid (BL.out.here b5)
          have B5 := Lib.hid (thence B4.out b5 (Nat.le_refl _))
          clear b5 B4
          obtain ⟨c0, c1, c2, c3⟩ := BX.out.four'
          have ltBX := BX.out.lt
          obtain ⟨d0, d1, d2, d3⟩ := BY.out.four'
          have ltBY := BY.out.lt
          obtain ⟨l0, l1, l2, l3, l4, l5, l6, l7, l8, l9⟩ := BZ.out.ten'
          have ltBZ := BZ.out.lt
          go_wp2_with fail
          go_ret
          exact ⟨rfl, B5.out⟩
      subst q0
      by_cases q1 : age = age'
      case neg =>
        have n1 : ((age : Int) == (age' : Int)) = false := beq_eq_false_iff_ne.2 (fun e => q1 (by omega))
        have n2 : ¬ (age : Int) = (age' : Int) := fun e => q1 (by omega)
        cases ho : LB.Lab.may ⟨li, ev, mem, chunk, rows, log, me, lost, done, op⟩ with
        | true =>
          have CW := Lib.hid (fun w1 => I.yes id age seq tail w1 HI.out (SB.may_iff.1 hm))
          have CV := Lib.hid (fun w1 => I.yes id age' seq' tail' w1 HI.out (SB.may_iff.1 hn))
          have CL := Lib.hid (fun w1 => J.yes li ev mem chunk rows log me lost done op w1 HK.out (LB.may_iff.1 ho))
          have KL : Hid ((Sup.block ⟨id, age, seq, tail⟩).length = 128) := SB.block_length _
          have KF : Hid ((Sup.block ⟨id, age, seq, tail⟩).getD 0 0 = 83) := by show _ = _; rw [SB.block_get _ _ (by decide)]; rfl
          have QL : Hid ((LB.Lab.block ⟨li, ev, mem, chunk, rows, log, me, lost, done, op⟩).length = 128) := LB.block_length _
          have QF : Hid ((LB.Lab.block ⟨li, ev, mem, chunk, rows, log, me, lost, done, op⟩).getD 0 0 = 76) := by show _ = _; rw [LB.block_get _ _ (by decide)]; rfl
          generalize LB.Lab.block ⟨li, ev, mem, chunk, rows, log, me, lost, done, op⟩ = Q at *
          have HNE : Hid (Sup.block ⟨id, age, seq, tail⟩ ≠ Sup.block ⟨id, age', seq', tail'⟩) := fun e => by have := (SB.block_inj (SB.may_iff.1 hm) (SB.may_iff.1 hn) HI.out HI.out).1 e; injection this; contradiction
          generalize Sup.block ⟨id, age, seq, tail⟩ = K at *
          generalize Sup.block ⟨id, age', seq', tail'⟩ = K' at *
          clear hm hn ho
          go_enter Try.func7, Try.ntmps7
          go_wp2_with fail
          generalize (((w.alloc (.cells #[.int .u32 (id : Int), .int .u32 (age : Int), .int .u32 (seq : Int), .int .i64 tail] 28)).alloc (.cells #[.int .u32 (id : Int), .int .u32 (age' : Int), .int .u32 (seq' : Int), .int .i64 tail'] 28)).alloc (.cells #[.int .u32 (li : Int), .int .u32 (ev : Int), .int .i64 mem, .int .i64 chunk, .int .i64 rows, .int .i64 log, .int .i64 me, .int .i64 lost, .int .i64 done, .bool op] 43)) = W0 at *
          obtain ⟨c0, c1, c2, c3⟩ := BX.out.four'
          have ltBX := BX.out.lt
          obtain ⟨d0, d1, d2, d3⟩ := BY.out.four'
          have ltBY := BY.out.lt
          obtain ⟨l0, l1, l2, l3, l4, l5, l6, l7, l8, l9⟩ := BZ.out.ten'
          have ltBZ := BZ.out.lt
          (with_reducible refine (CA.out _).mono ?_)
          rintro e w1 ⟨rfl, b1⟩
          clear c0 c1 c2 c3 d0 d1 d2 d3 l0 l1 l2 l3 l4 l5 l6 l7 l8 l9 ltBX ltBY ltBZ
          replace BX := Lib.hid (BX.out.here b1)
          replace BY := Lib.hid (BY.out.here b1)
          replace BZ := Lib.hid (BZ.out.here b1)
          have B1 := Lib.hid (thence B0.out b1 (Nat.le_refl _))
          clear b1 B0
          obtain ⟨c0, c1, c2, c3⟩ := BX.out.four'
          have ltBX := BX.out.lt
          obtain ⟨d0, d1, d2, d3⟩ := BY.out.four'
          have ltBY := BY.out.lt
          obtain ⟨l0, l1, l2, l3, l4, l5, l6, l7, l8, l9⟩ := BZ.out.ten'
          have ltBZ := BZ.out.lt
          go_wp2_with fail
          (with_reducible refine (CW.out _).mono ?_)
          rintro e w2 ⟨a1, k1, rfl, r1, -, b2⟩
          clear c0 c1 c2 c3 d0 d1 d2 d3 l0 l1 l2 l3 l4 l5 l6 l7 l8 l9 ltBX ltBY ltBZ
          replace BX := Lib.hid (BX.out.here b2)
          replace BY := Lib.hid (BY.out.here b2)
          replace BZ := Lib.hid (BZ.out.here b2)
          have B2 := Lib.hid (thence B1.out b2 (Nat.le_refl _))
          have R1 := Lib.hid r1
          clear r1
          clear b2 B1
          obtain ⟨c0, c1, c2, c3⟩ := BX.out.four'
          have ltBX := BX.out.lt
          obtain ⟨d0, d1, d2, d3⟩ := BY.out.four'
          have ltBY := BY.out.lt
          obtain ⟨l0, l1, l2, l3, l4, l5, l6, l7, l8, l9⟩ := BZ.out.ten'
          have ltBZ := BZ.out.lt
          go_wp2_with fail
          (with_reducible refine (CV.out _).mono ?_)
          rintro e w3 ⟨a2, k2, rfl, r2, -, b3⟩
          clear c0 c1 c2 c3 d0 d1 d2 d3 l0 l1 l2 l3 l4 l5 l6 l7 l8 l9 ltBX ltBY ltBZ
          replace BX := Lib.hid (BX.out.here b3)
          replace BY := Lib.hid (BY.out.here b3)
          replace BZ := Lib.hid (BZ.out.here b3)
          replace R1 := Lib.hid (R1.out.here b3)
          have B3 := Lib.hid (thence B2.out b3 (Nat.le_refl _))
          have R2 := Lib.hid r2
          clear r2
          clear b3 B2
          obtain ⟨c0, c1, c2, c3⟩ := BX.out.four'
          have ltBX := BX.out.lt
          obtain ⟨d0, d1, d2, d3⟩ := BY.out.four'
          have ltBY := BY.out.lt
          obtain ⟨l0, l1, l2, l3, l4, l5, l6, l7, l8, l9⟩ := BZ.out.ten'
          have ltBZ := BZ.out.lt
          have T1 := fun nq => text_is (w3.drewN nq) _ _ _ _ (R1.out.drewN nq)
          have T2 := fun nq => text_is (w3.drewN nq) _ _ _ _ (R2.out.drewN nq)
          have HS := str_apart R1.out.byt R2.out.byt HNE.out
          go_wp2_with fail
          go_quiet (fail)
          rename_i nq
          clear c0 c1 c2 c3 d0 d1 d2 d3 l0 l1 l2 l3 l4 l5 l6 l7 l8 l9 ltBX ltBY ltBZ
          replace BX := Lib.hid (BX.out.here (below_drewN (Below.refl _ _) nq))
          replace BY := Lib.hid (BY.out.here (below_drewN (Below.refl _ _) nq))
          replace BZ := Lib.hid (BZ.out.here (below_drewN (Below.refl _ _) nq))
          replace R1 := Lib.hid (R1.out.here (below_drewN (Below.refl _ _) nq))
          replace R2 := Lib.hid (R2.out.here (below_drewN (Below.refl _ _) nq))
          replace B3 := Lib.hid (below_drewN B3.out nq)
          clear T1 T2 HS
          generalize w3.drewN nq = w3' at *
          obtain ⟨c0, c1, c2, c3⟩ := BX.out.four'
          have ltBX := BX.out.lt
          obtain ⟨d0, d1, d2, d3⟩ := BY.out.four'
          have ltBY := BY.out.lt
          obtain ⟨l0, l1, l2, l3, l4, l5, l6, l7, l8, l9⟩ := BZ.out.ten'
          have ltBZ := BZ.out.lt
          have CR : Hid (∀ (a : Option Addr) (n : Nat) (w1 : World), Rd w1.heap.size w1 a 128 n K → Calls Try.prog 17 #[.slice a 128 n] w1 fun e w' => e = .returned (.tuple #[.agg #[.int .u32 0, .int .u32 0, .int .i64 0, .int .i64 0, .int .i64 0, .int .i64 0, .int .i64 0, .int .i64 0, .int .i64 0, .bool false], .int .i64 90]) ∧ Below w1.heap.size w1 w') := fun a n w1 hr => J.read a 128 n K w1 hr (by rw [LB.rd_first (.inr KL.out) (by rw [KF.out]; decide)])
          go_wp2_with fail
          (with_reducible refine (CR.out _ _ _ R1.out).mono ?_)
          rintro e w4 ⟨rfl, b4⟩
          clear c0 c1 c2 c3 d0 d1 d2 d3 l0 l1 l2 l3 l4 l5 l6 l7 l8 l9 ltBX ltBY ltBZ
          replace BX := Lib.hid (BX.out.here b4)
          replace BY := Lib.hid (BY.out.here b4)
          replace BZ := Lib.hid (BZ.out.here b4)
          replace R1 := Lib.hid (R1.out.here b4)
          replace R2 := Lib.hid (R2.out.here b4)
          have ha4 : Below w4.heap.size w4 (w4.alloc (.cells #[.int .u32 0, .int .u32 0, .int .i64 0, .int .i64 0, .int .i64 0, .int .i64 0, .int .i64 0, .int .i64 0, .int .i64 0, .bool false] 43)) := (Below.refl _ _).alloc (Nat.le_refl _) _
          replace BX := Lib.hid (BX.out.here ha4)
          replace BY := Lib.hid (BY.out.here ha4)
          replace BZ := Lib.hid (BZ.out.here ha4)
          replace R1 := Lib.hid (R1.out.here ha4)
          replace R2 := Lib.hid (R2.out.here ha4)
          have BL : Hid (Bx (w4.alloc (.cells #[.int .u32 0, .int .u32 0, .int .i64 0, .int .i64 0, .int .i64 0, .int .i64 0, .int .i64 0, .int .i64 0, .int .i64 0, .bool false] 43)) w4.heap.size [.int .u32 0, .int .u32 0, .int .i64 0, .int .i64 0, .int .i64 0, .int .i64 0, .int .i64 0, .int .i64 0, .int .i64 0, .bool false]) := Bx.new w4 [.int .u32 0, .int .u32 0, .int .i64 0, .int .i64 0, .int .i64 0, .int .i64 0, .int .i64 0, .int .i64 0, .int .i64 0, .bool false] 43
          have B4 := Lib.hid (thence B3.out (thence b4 ha4 (Nat.le_refl _)) (Nat.le_refl _))
          clear ha4
          clear b4 B3
          obtain ⟨c0, c1, c2, c3⟩ := BX.out.four'
          have ltBX := BX.out.lt
          obtain ⟨d0, d1, d2, d3⟩ := BY.out.four'
          have ltBY := BY.out.lt
          obtain ⟨l0, l1, l2, l3, l4, l5, l6, l7, l8, l9⟩ := BZ.out.ten'
          have ltBZ := BZ.out.lt
          go_wp2_with fail
          (with_reducible refine (CL.out _).mono ?_)
          rintro e w5 ⟨a5, k5, rfl, r5, -, b5⟩
          clear c0 c1 c2 c3 d0 d1 d2 d3 l0 l1 l2 l3 l4 l5 l6 l7 l8 l9 ltBX ltBY ltBZ
          replace BX := Lib.hid (BX.out.here b5)
          replace BY := Lib.hid (BY.out.here b5)
          replace BZ := Lib.hid (BZ.out.here b5)
          replace R1 := Lib.hid (R1.out.here b5)
          replace R2 := Lib.hid (R2.out.here b5)
          replace BL := Lib.hid (BL.out.here b5)
          have B5 := Lib.hid (thence B4.out b5 (Nat.le_refl _))
          have R5 := Lib.hid r5
          clear r5
          clear b5 B4
          obtain ⟨c0, c1, c2, c3⟩ := BX.out.four'
          have ltBX := BX.out.lt
          obtain ⟨d0, d1, d2, d3⟩ := BY.out.four'
          have ltBY := BY.out.lt
          obtain ⟨l0, l1, l2, l3, l4, l5, l6, l7, l8, l9⟩ := BZ.out.ten'
          have ltBZ := BZ.out.lt
          have CS : Hid (∀ (a : Option Addr) (n : Nat) (w1 : World), Rd w1.heap.size w1 a 128 n Q → Calls Try.prog 11 #[.slice a 128 n] w1 fun e w' => e = .returned (.tuple #[.agg #[.int .u32 0, .int .u32 0, .int .u32 0, .int .i64 0], .int .i64 90]) ∧ Below w1.heap.size w1 w') := fun a n w1 hr => by have := I.read a 128 n Q w1 hr; rw [SB.rd_first (.inr QL.out) (by rw [QF.out]; decide)] at this; exact this
          go_wp2_with fail
          (with_reducible refine (CS.out _ _ _ R5.out).mono ?_)
          rintro e w6 ⟨rfl, b6⟩
          clear c0 c1 c2 c3 d0 d1 d2 d3 l0 l1 l2 l3 l4 l5 l6 l7 l8 l9 ltBX ltBY ltBZ
          replace BX := Lib.hid (BX.out.here b6)
          replace BY := Lib.hid (BY.out.here b6)
          replace BZ := Lib.hid (BZ.out.here b6)
          replace R1 := Lib.hid (R1.out.here b6)
          replace R2 := Lib.hid (R2.out.here b6)
          replace BL := Lib.hid (BL.out.here b6)
          replace R5 := Lib.hid (R5.out.here b6)
          have ha6 : Below w6.heap.size w6 (w6.alloc (.cells #[.int .u32 0, .int .u32 0, .int .u32 0, .int .i64 0] 28)) := (Below.refl _ _).alloc (Nat.le_refl _) _
          replace BX := Lib.hid (BX.out.here ha6)
          replace BY := Lib.hid (BY.out.here ha6)
          replace BZ := Lib.hid (BZ.out.here ha6)
          replace R1 := Lib.hid (R1.out.here ha6)
          replace R2 := Lib.hid (R2.out.here ha6)
          replace BL := Lib.hid (BL.out.here ha6)
          replace R5 := Lib.hid (R5.out.here ha6)
          have BM : Hid (Bx (w6.alloc (.cells #[.int .u32 0, .int .u32 0, .int .u32 0, .int .i64 0] 28)) w6.heap.size [.int .u32 0, .int .u32 0, .int .u32 0, .int .i64 0]) := Bx.new w6 [.int .u32 0, .int .u32 0, .int .u32 0, .int .i64 0] 28
          have B6 := Lib.hid (thence B5.out (thence b6 ha6 (Nat.le_refl _)) (Nat.le_refl _))
          clear ha6
          clear b6 B5
          obtain ⟨c0, c1, c2, c3⟩ := BX.out.four'
          have ltBX := BX.out.lt
          obtain ⟨d0, d1, d2, d3⟩ := BY.out.four'
          have ltBY := BY.out.lt
          obtain ⟨l0, l1, l2, l3, l4, l5, l6, l7, l8, l9⟩ := BZ.out.ten'
          have ltBZ := BZ.out.lt
          go_wp2_with fail
          go_ret
          exact ⟨rfl, B6.out⟩
        | false =>
          have CW := Lib.hid (fun w1 => I.yes id age seq tail w1 HI.out (SB.may_iff.1 hm))
          have CV := Lib.hid (fun w1 => I.yes id age' seq' tail' w1 HI.out (SB.may_iff.1 hn))
          have CL := Lib.hid (fun w1 => J.no li ev mem chunk rows log me lost done op w1 HK.out ho)
          have KL : Hid ((Sup.block ⟨id, age, seq, tail⟩).length = 128) := SB.block_length _
          have KF : Hid ((Sup.block ⟨id, age, seq, tail⟩).getD 0 0 = 83) := by show _ = _; rw [SB.block_get _ _ (by decide)]; rfl
          have HNE : Hid (Sup.block ⟨id, age, seq, tail⟩ ≠ Sup.block ⟨id, age', seq', tail'⟩) := fun e => by have := (SB.block_inj (SB.may_iff.1 hm) (SB.may_iff.1 hn) HI.out HI.out).1 e; injection this; contradiction
          generalize Sup.block ⟨id, age, seq, tail⟩ = K at *
          generalize Sup.block ⟨id, age', seq', tail'⟩ = K' at *
          clear hm hn ho
          go_enter Try.func7, Try.ntmps7
          go_wp2_with fail
          generalize (((w.alloc (.cells #[.int .u32 (id : Int), .int .u32 (age : Int), .int .u32 (seq : Int), .int .i64 tail] 28)).alloc (.cells #[.int .u32 (id : Int), .int .u32 (age' : Int), .int .u32 (seq' : Int), .int .i64 tail'] 28)).alloc (.cells #[.int .u32 (li : Int), .int .u32 (ev : Int), .int .i64 mem, .int .i64 chunk, .int .i64 rows, .int .i64 log, .int .i64 me, .int .i64 lost, .int .i64 done, .bool op] 43)) = W0 at *
          obtain ⟨c0, c1, c2, c3⟩ := BX.out.four'
          have ltBX := BX.out.lt
          obtain ⟨d0, d1, d2, d3⟩ := BY.out.four'
          have ltBY := BY.out.lt
          obtain ⟨l0, l1, l2, l3, l4, l5, l6, l7, l8, l9⟩ := BZ.out.ten'
          have ltBZ := BZ.out.lt
          (with_reducible refine (CA.out _).mono ?_)
          rintro e w1 ⟨rfl, b1⟩
          clear c0 c1 c2 c3 d0 d1 d2 d3 l0 l1 l2 l3 l4 l5 l6 l7 l8 l9 ltBX ltBY ltBZ
          replace BX := Lib.hid (BX.out.here b1)
          replace BY := Lib.hid (BY.out.here b1)
          replace BZ := Lib.hid (BZ.out.here b1)
          have B1 := Lib.hid (thence B0.out b1 (Nat.le_refl _))
          clear b1 B0
          obtain ⟨c0, c1, c2, c3⟩ := BX.out.four'
          have ltBX := BX.out.lt
          obtain ⟨d0, d1, d2, d3⟩ := BY.out.four'
          have ltBY := BY.out.lt
          obtain ⟨l0, l1, l2, l3, l4, l5, l6, l7, l8, l9⟩ := BZ.out.ten'
          have ltBZ := BZ.out.lt
          go_wp2_with fail
          (with_reducible refine (CW.out _).mono ?_)
          rintro e w2 ⟨a1, k1, rfl, r1, -, b2⟩
          clear c0 c1 c2 c3 d0 d1 d2 d3 l0 l1 l2 l3 l4 l5 l6 l7 l8 l9 ltBX ltBY ltBZ
          replace BX := Lib.hid (BX.out.here b2)
          replace BY := Lib.hid (BY.out.here b2)
          replace BZ := Lib.hid (BZ.out.here b2)
          have B2 := Lib.hid (thence B1.out b2 (Nat.le_refl _))
          have R1 := Lib.hid r1
          clear r1
          clear b2 B1
          obtain ⟨c0, c1, c2, c3⟩ := BX.out.four'
          have ltBX := BX.out.lt
          obtain ⟨d0, d1, d2, d3⟩ := BY.out.four'
          have ltBY := BY.out.lt
          obtain ⟨l0, l1, l2, l3, l4, l5, l6, l7, l8, l9⟩ := BZ.out.ten'
          have ltBZ := BZ.out.lt
          go_wp2_with fail
          (with_reducible refine (CV.out _).mono ?_)
          rintro e w3 ⟨a2, k2, rfl, r2, -, b3⟩
          clear c0 c1 c2 c3 d0 d1 d2 d3 l0 l1 l2 l3 l4 l5 l6 l7 l8 l9 ltBX ltBY ltBZ
          replace BX := Lib.hid (BX.out.here b3)
          replace BY := Lib.hid (BY.out.here b3)
          replace BZ := Lib.hid (BZ.out.here b3)
          replace R1 := Lib.hid (R1.out.here b3)
          have B3 := Lib.hid (thence B2.out b3 (Nat.le_refl _))
          have R2 := Lib.hid r2
          clear r2
          clear b3 B2
          obtain ⟨c0, c1, c2, c3⟩ := BX.out.four'
          have ltBX := BX.out.lt
          obtain ⟨d0, d1, d2, d3⟩ := BY.out.four'
          have ltBY := BY.out.lt
          obtain ⟨l0, l1, l2, l3, l4, l5, l6, l7, l8, l9⟩ := BZ.out.ten'
          have ltBZ := BZ.out.lt
          have T1 := fun nq => text_is (w3.drewN nq) _ _ _ _ (R1.out.drewN nq)
          have T2 := fun nq => text_is (w3.drewN nq) _ _ _ _ (R2.out.drewN nq)
          have HS := str_apart R1.out.byt R2.out.byt HNE.out
          go_wp2_with fail
          go_quiet (fail)
          rename_i nq
          clear c0 c1 c2 c3 d0 d1 d2 d3 l0 l1 l2 l3 l4 l5 l6 l7 l8 l9 ltBX ltBY ltBZ
          replace BX := Lib.hid (BX.out.here (below_drewN (Below.refl _ _) nq))
          replace BY := Lib.hid (BY.out.here (below_drewN (Below.refl _ _) nq))
          replace BZ := Lib.hid (BZ.out.here (below_drewN (Below.refl _ _) nq))
          replace R1 := Lib.hid (R1.out.here (below_drewN (Below.refl _ _) nq))
          replace R2 := Lib.hid (R2.out.here (below_drewN (Below.refl _ _) nq))
          replace B3 := Lib.hid (below_drewN B3.out nq)
          clear T1 T2 HS
          generalize w3.drewN nq = w3' at *
          obtain ⟨c0, c1, c2, c3⟩ := BX.out.four'
          have ltBX := BX.out.lt
          obtain ⟨d0, d1, d2, d3⟩ := BY.out.four'
          have ltBY := BY.out.lt
          obtain ⟨l0, l1, l2, l3, l4, l5, l6, l7, l8, l9⟩ := BZ.out.ten'
          have ltBZ := BZ.out.lt
          have CR : Hid (∀ (a : Option Addr) (n : Nat) (w1 : World), Rd w1.heap.size w1 a 128 n K → Calls Try.prog 17 #[.slice a 128 n] w1 fun e w' => e = .returned (.tuple #[.agg #[.int .u32 0, .int .u32 0, .int .i64 0, .int .i64 0, .int .i64 0, .int .i64 0, .int .i64 0, .int .i64 0, .int .i64 0, .bool false], .int .i64 90]) ∧ Below w1.heap.size w1 w') := fun a n w1 hr => J.read a 128 n K w1 hr (by rw [LB.rd_first (.inr KL.out) (by rw [KF.out]; decide)])
          go_wp2_with fail
          (with_reducible refine (CR.out _ _ _ R1.out).mono ?_)
          rintro e w4 ⟨rfl, b4⟩
          clear c0 c1 c2 c3 d0 d1 d2 d3 l0 l1 l2 l3 l4 l5 l6 l7 l8 l9 ltBX ltBY ltBZ
          replace BX := Lib.hid (BX.out.here b4)
          replace BY := Lib.hid (BY.out.here b4)
          replace BZ := Lib.hid (BZ.out.here b4)
          replace R1 := Lib.hid (R1.out.here b4)
          replace R2 := Lib.hid (R2.out.here b4)
          have ha4 : Below w4.heap.size w4 (w4.alloc (.cells #[.int .u32 0, .int .u32 0, .int .i64 0, .int .i64 0, .int .i64 0, .int .i64 0, .int .i64 0, .int .i64 0, .int .i64 0, .bool false] 43)) := (Below.refl _ _).alloc (Nat.le_refl _) _
          replace BX := Lib.hid (BX.out.here ha4)
          replace BY := Lib.hid (BY.out.here ha4)
          replace BZ := Lib.hid (BZ.out.here ha4)
          replace R1 := Lib.hid (R1.out.here ha4)
          replace R2 := Lib.hid (R2.out.here ha4)
          have BL : Hid (Bx (w4.alloc (.cells #[.int .u32 0, .int .u32 0, .int .i64 0, .int .i64 0, .int .i64 0, .int .i64 0, .int .i64 0, .int .i64 0, .int .i64 0, .bool false] 43)) w4.heap.size [.int .u32 0, .int .u32 0, .int .i64 0, .int .i64 0, .int .i64 0, .int .i64 0, .int .i64 0, .int .i64 0, .int .i64 0, .bool false]) := Bx.new w4 [.int .u32 0, .int .u32 0, .int .i64 0, .int .i64 0, .int .i64 0, .int .i64 0, .int .i64 0, .int .i64 0, .int .i64 0, .bool false] 43
          have B4 := Lib.hid (thence B3.out (thence b4 ha4 (Nat.le_refl _)) (Nat.le_refl _))
          clear ha4
          clear b4 B3
          obtain ⟨c0, c1, c2, c3⟩ := BX.out.four'
          have ltBX := BX.out.lt
          obtain ⟨d0, d1, d2, d3⟩ := BY.out.four'
          have ltBY := BY.out.lt
          obtain ⟨l0, l1, l2, l3, l4, l5, l6, l7, l8, l9⟩ := BZ.out.ten'
          have ltBZ := BZ.out.lt
          go_wp2_with fail
          (with_reducible refine (CL.out _).mono ?_)
          rintro e w5 ⟨a5, k5, rfl, -, b5⟩
          clear c0 c1 c2 c3 d0 d1 d2 d3 l0 l1 l2 l3 l4 l5 l6 l7 l8 l9 ltBX ltBY ltBZ
          replace BX := Lib.hid (BX.out.here b5)
          replace BY := Lib.hid (BY.out.here b5)
          replace BZ := Lib.hid (BZ.out.here b5)
          replace R1 := Lib.hid (R1.out.here b5)
          replace R2 := Lib.hid (R2.out.here b5)
          replace BL := Lib.hid (BL.out.here b5)
          have B5 := Lib.hid (thence B4.out b5 (Nat.le_refl _))
          clear b5 B4
          obtain ⟨c0, c1, c2, c3⟩ := BX.out.four'
          have ltBX := BX.out.lt
          obtain ⟨d0, d1, d2, d3⟩ := BY.out.four'
          have ltBY := BY.out.lt
          obtain ⟨l0, l1, l2, l3, l4, l5, l6, l7, l8, l9⟩ := BZ.out.ten'
          have ltBZ := BZ.out.lt
          go_wp2_with fail
          go_ret
          exact ⟨rfl, B5.out⟩
      subst q1
      by_cases q2 : seq = seq'
      case neg =>
        have n1 : ((seq : Int) == (seq' : Int)) = false := beq_eq_false_iff_ne.2 (fun e => q2 (by omega))
        have n2 : ¬ (seq : Int) = (seq' : Int) := fun e => q2 (by omega)
        cases ho : LB.Lab.may ⟨li, ev, mem, chunk, rows, log, me, lost, done, op⟩ with
        | true =>
          have CW := Lib.hid (fun w1 => I.yes id age seq tail w1 HI.out (SB.may_iff.1 hm))
          have CV := Lib.hid (fun w1 => I.yes id age seq' tail' w1 HI.out (SB.may_iff.1 hn))
          have CL := Lib.hid (fun w1 => J.yes li ev mem chunk rows log me lost done op w1 HK.out (LB.may_iff.1 ho))
          have KL : Hid ((Sup.block ⟨id, age, seq, tail⟩).length = 128) := SB.block_length _
          have KF : Hid ((Sup.block ⟨id, age, seq, tail⟩).getD 0 0 = 83) := by show _ = _; rw [SB.block_get _ _ (by decide)]; rfl
          have QL : Hid ((LB.Lab.block ⟨li, ev, mem, chunk, rows, log, me, lost, done, op⟩).length = 128) := LB.block_length _
          have QF : Hid ((LB.Lab.block ⟨li, ev, mem, chunk, rows, log, me, lost, done, op⟩).getD 0 0 = 76) := by show _ = _; rw [LB.block_get _ _ (by decide)]; rfl
          generalize LB.Lab.block ⟨li, ev, mem, chunk, rows, log, me, lost, done, op⟩ = Q at *
          have HNE : Hid (Sup.block ⟨id, age, seq, tail⟩ ≠ Sup.block ⟨id, age, seq', tail'⟩) := fun e => by have := (SB.block_inj (SB.may_iff.1 hm) (SB.may_iff.1 hn) HI.out HI.out).1 e; injection this; contradiction
          generalize Sup.block ⟨id, age, seq, tail⟩ = K at *
          generalize Sup.block ⟨id, age, seq', tail'⟩ = K' at *
          clear hm hn ho
          go_enter Try.func7, Try.ntmps7
          go_wp2_with fail
          generalize (((w.alloc (.cells #[.int .u32 (id : Int), .int .u32 (age : Int), .int .u32 (seq : Int), .int .i64 tail] 28)).alloc (.cells #[.int .u32 (id : Int), .int .u32 (age : Int), .int .u32 (seq' : Int), .int .i64 tail'] 28)).alloc (.cells #[.int .u32 (li : Int), .int .u32 (ev : Int), .int .i64 mem, .int .i64 chunk, .int .i64 rows, .int .i64 log, .int .i64 me, .int .i64 lost, .int .i64 done, .bool op] 43)) = W0 at *
          obtain ⟨c0, c1, c2, c3⟩ := BX.out.four'
          have ltBX := BX.out.lt
          obtain ⟨d0, d1, d2, d3⟩ := BY.out.four'
          have ltBY := BY.out.lt
          obtain ⟨l0, l1, l2, l3, l4, l5, l6, l7, l8, l9⟩ := BZ.out.ten'
          have ltBZ := BZ.out.lt
          (with_reducible refine (CA.out _).mono ?_)
          rintro e w1 ⟨rfl, b1⟩
          clear c0 c1 c2 c3 d0 d1 d2 d3 l0 l1 l2 l3 l4 l5 l6 l7 l8 l9 ltBX ltBY ltBZ
          replace BX := Lib.hid (BX.out.here b1)
          replace BY := Lib.hid (BY.out.here b1)
          replace BZ := Lib.hid (BZ.out.here b1)
          have B1 := Lib.hid (thence B0.out b1 (Nat.le_refl _))
          clear b1 B0
          obtain ⟨c0, c1, c2, c3⟩ := BX.out.four'
          have ltBX := BX.out.lt
          obtain ⟨d0, d1, d2, d3⟩ := BY.out.four'
          have ltBY := BY.out.lt
          obtain ⟨l0, l1, l2, l3, l4, l5, l6, l7, l8, l9⟩ := BZ.out.ten'
          have ltBZ := BZ.out.lt
          go_wp2_with fail
          (with_reducible refine (CW.out _).mono ?_)
          rintro e w2 ⟨a1, k1, rfl, r1, -, b2⟩
          clear c0 c1 c2 c3 d0 d1 d2 d3 l0 l1 l2 l3 l4 l5 l6 l7 l8 l9 ltBX ltBY ltBZ
          replace BX := Lib.hid (BX.out.here b2)
          replace BY := Lib.hid (BY.out.here b2)
          replace BZ := Lib.hid (BZ.out.here b2)
          have B2 := Lib.hid (thence B1.out b2 (Nat.le_refl _))
          have R1 := Lib.hid r1
          clear r1
          clear b2 B1
          obtain ⟨c0, c1, c2, c3⟩ := BX.out.four'
          have ltBX := BX.out.lt
          obtain ⟨d0, d1, d2, d3⟩ := BY.out.four'
          have ltBY := BY.out.lt
          obtain ⟨l0, l1, l2, l3, l4, l5, l6, l7, l8, l9⟩ := BZ.out.ten'
          have ltBZ := BZ.out.lt
          go_wp2_with fail
          (with_reducible refine (CV.out _).mono ?_)
          rintro e w3 ⟨a2, k2, rfl, r2, -, b3⟩
          clear c0 c1 c2 c3 d0 d1 d2 d3 l0 l1 l2 l3 l4 l5 l6 l7 l8 l9 ltBX ltBY ltBZ
          replace BX := Lib.hid (BX.out.here b3)
          replace BY := Lib.hid (BY.out.here b3)
          replace BZ := Lib.hid (BZ.out.here b3)
          replace R1 := Lib.hid (R1.out.here b3)
          have B3 := Lib.hid (thence B2.out b3 (Nat.le_refl _))
          have R2 := Lib.hid r2
          clear r2
          clear b3 B2
          obtain ⟨c0, c1, c2, c3⟩ := BX.out.four'
          have ltBX := BX.out.lt
          obtain ⟨d0, d1, d2, d3⟩ := BY.out.four'
          have ltBY := BY.out.lt
          obtain ⟨l0, l1, l2, l3, l4, l5, l6, l7, l8, l9⟩ := BZ.out.ten'
          have ltBZ := BZ.out.lt
          have T1 := fun nq => text_is (w3.drewN nq) _ _ _ _ (R1.out.drewN nq)
          have T2 := fun nq => text_is (w3.drewN nq) _ _ _ _ (R2.out.drewN nq)
          have HS := str_apart R1.out.byt R2.out.byt HNE.out
          go_wp2_with fail
          go_quiet (fail)
          rename_i nq
          clear c0 c1 c2 c3 d0 d1 d2 d3 l0 l1 l2 l3 l4 l5 l6 l7 l8 l9 ltBX ltBY ltBZ
          replace BX := Lib.hid (BX.out.here (below_drewN (Below.refl _ _) nq))
          replace BY := Lib.hid (BY.out.here (below_drewN (Below.refl _ _) nq))
          replace BZ := Lib.hid (BZ.out.here (below_drewN (Below.refl _ _) nq))
          replace R1 := Lib.hid (R1.out.here (below_drewN (Below.refl _ _) nq))
          replace R2 := Lib.hid (R2.out.here (below_drewN (Below.refl _ _) nq))
          replace B3 := Lib.hid (below_drewN B3.out nq)
          clear T1 T2 HS
          generalize w3.drewN nq = w3' at *
          obtain ⟨c0, c1, c2, c3⟩ := BX.out.four'
          have ltBX := BX.out.lt
          obtain ⟨d0, d1, d2, d3⟩ := BY.out.four'
          have ltBY := BY.out.lt
          obtain ⟨l0, l1, l2, l3, l4, l5, l6, l7, l8, l9⟩ := BZ.out.ten'
          have ltBZ := BZ.out.lt
          have CR : Hid (∀ (a : Option Addr) (n : Nat) (w1 : World), Rd w1.heap.size w1 a 128 n K → Calls Try.prog 17 #[.slice a 128 n] w1 fun e w' => e = .returned (.tuple #[.agg #[.int .u32 0, .int .u32 0, .int .i64 0, .int .i64 0, .int .i64 0, .int .i64 0, .int .i64 0, .int .i64 0, .int .i64 0, .bool false], .int .i64 90]) ∧ Below w1.heap.size w1 w') := fun a n w1 hr => J.read a 128 n K w1 hr (by rw [LB.rd_first (.inr KL.out) (by rw [KF.out]; decide)])
          go_wp2_with fail
          (with_reducible refine (CR.out _ _ _ R1.out).mono ?_)
          rintro e w4 ⟨rfl, b4⟩
          clear c0 c1 c2 c3 d0 d1 d2 d3 l0 l1 l2 l3 l4 l5 l6 l7 l8 l9 ltBX ltBY ltBZ
          replace BX := Lib.hid (BX.out.here b4)
          replace BY := Lib.hid (BY.out.here b4)
          replace BZ := Lib.hid (BZ.out.here b4)
          replace R1 := Lib.hid (R1.out.here b4)
          replace R2 := Lib.hid (R2.out.here b4)
          have ha4 : Below w4.heap.size w4 (w4.alloc (.cells #[.int .u32 0, .int .u32 0, .int .i64 0, .int .i64 0, .int .i64 0, .int .i64 0, .int .i64 0, .int .i64 0, .int .i64 0, .bool false] 43)) := (Below.refl _ _).alloc (Nat.le_refl _) _
          replace BX := Lib.hid (BX.out.here ha4)
          replace BY := Lib.hid (BY.out.here ha4)
          replace BZ := Lib.hid (BZ.out.here ha4)
          replace R1 := Lib.hid (R1.out.here ha4)
          replace R2 := Lib.hid (R2.out.here ha4)
          have BL : Hid (Bx (w4.alloc (.cells #[.int .u32 0, .int .u32 0, .int .i64 0, .int .i64 0, .int .i64 0, .int .i64 0, .int .i64 0, .int .i64 0, .int .i64 0, .bool false] 43)) w4.heap.size [.int .u32 0, .int .u32 0, .int .i64 0, .int .i64 0, .int .i64 0, .int .i64 0, .int .i64 0, .int .i64 0, .int .i64 0, .bool false]) := Bx.new w4 [.int .u32 0, .int .u32 0, .int .i64 0, .int .i64 0, .int .i64 0, .int .i64 0, .int .i64 0, .int .i64 0, .int .i64 0, .bool false] 43
          have B4 := Lib.hid (thence B3.out (thence b4 ha4 (Nat.le_refl _)) (Nat.le_refl _))
          clear ha4
          clear b4 B3
          obtain ⟨c0, c1, c2, c3⟩ := BX.out.four'
          have ltBX := BX.out.lt
          obtain ⟨d0, d1, d2, d3⟩ := BY.out.four'
          have ltBY := BY.out.lt
          obtain ⟨l0, l1, l2, l3, l4, l5, l6, l7, l8, l9⟩ := BZ.out.ten'
          have ltBZ := BZ.out.lt
          go_wp2_with fail
          (with_reducible refine (CL.out _).mono ?_)
          rintro e w5 ⟨a5, k5, rfl, r5, -, b5⟩
          clear c0 c1 c2 c3 d0 d1 d2 d3 l0 l1 l2 l3 l4 l5 l6 l7 l8 l9 ltBX ltBY ltBZ
          replace BX := Lib.hid (BX.out.here b5)
          replace BY := Lib.hid (BY.out.here b5)
          replace BZ := Lib.hid (BZ.out.here b5)
          replace R1 := Lib.hid (R1.out.here b5)
          replace R2 := Lib.hid (R2.out.here b5)
          replace BL := Lib.hid (BL.out.here b5)
          have B5 := Lib.hid (thence B4.out b5 (Nat.le_refl _))
          have R5 := Lib.hid r5
          clear r5
          clear b5 B4
          obtain ⟨c0, c1, c2, c3⟩ := BX.out.four'
          have ltBX := BX.out.lt
          obtain ⟨d0, d1, d2, d3⟩ := BY.out.four'
          have ltBY := BY.out.lt
          obtain ⟨l0, l1, l2, l3, l4, l5, l6, l7, l8, l9⟩ := BZ.out.ten'
          have ltBZ := BZ.out.lt
          have CS : Hid (∀ (a : Option Addr) (n : Nat) (w1 : World), Rd w1.heap.size w1 a 128 n Q → Calls Try.prog 11 #[.slice a 128 n] w1 fun e w' => e = .returned (.tuple #[.agg #[.int .u32 0, .int .u32 0, .int .u32 0, .int .i64 0], .int .i64 90]) ∧ Below w1.heap.size w1 w') := fun a n w1 hr => by have := I.read a 128 n Q w1 hr; rw [SB.rd_first (.inr QL.out) (by rw [QF.out]; decide)] at this; exact this
          go_wp2_with fail
          (with_reducible refine (CS.out _ _ _ R5.out).mono ?_)
          rintro e w6 ⟨rfl, b6⟩
          clear c0 c1 c2 c3 d0 d1 d2 d3 l0 l1 l2 l3 l4 l5 l6 l7 l8 l9 ltBX ltBY ltBZ
          replace BX := Lib.hid (BX.out.here b6)
          replace BY := Lib.hid (BY.out.here b6)
          replace BZ := Lib.hid (BZ.out.here b6)
          replace R1 := Lib.hid (R1.out.here b6)
          replace R2 := Lib.hid (R2.out.here b6)
          replace BL := Lib.hid (BL.out.here b6)
          replace R5 := Lib.hid (R5.out.here b6)
          have ha6 : Below w6.heap.size w6 (w6.alloc (.cells #[.int .u32 0, .int .u32 0, .int .u32 0, .int .i64 0] 28)) := (Below.refl _ _).alloc (Nat.le_refl _) _
          replace BX := Lib.hid (BX.out.here ha6)
          replace BY := Lib.hid (BY.out.here ha6)
          replace BZ := Lib.hid (BZ.out.here ha6)
          replace R1 := Lib.hid (R1.out.here ha6)
          replace R2 := Lib.hid (R2.out.here ha6)
          replace BL := Lib.hid (BL.out.here ha6)
          replace R5 := Lib.hid (R5.out.here ha6)
          have BM : Hid (Bx (w6.alloc (.cells #[.int .u32 0, .int .u32 0, .int .u32 0, .int .i64 0] 28)) w6.heap.size [.int .u32 0, .int .u32 0, .int .u32 0, .int .i64 0]) := Bx.new w6 [.int .u32 0, .int .u32 0, .int .u32 0, .int .i64 0] 28
          have B6 := Lib.hid (thence B5.out (thence b6 ha6 (Nat.le_refl _)) (Nat.le_refl _))
          clear ha6
          clear b6 B5
          obtain ⟨c0, c1, c2, c3⟩ := BX.out.four'
          have ltBX := BX.out.lt
          obtain ⟨d0, d1, d2, d3⟩ := BY.out.four'
          have ltBY := BY.out.lt
          obtain ⟨l0, l1, l2, l3, l4, l5, l6, l7, l8, l9⟩ := BZ.out.ten'
          have ltBZ := BZ.out.lt
          go_wp2_with fail
          go_ret
          exact ⟨rfl, B6.out⟩
        | false =>
          have CW := Lib.hid (fun w1 => I.yes id age seq tail w1 HI.out (SB.may_iff.1 hm))
          have CV := Lib.hid (fun w1 => I.yes id age seq' tail' w1 HI.out (SB.may_iff.1 hn))
          have CL := Lib.hid (fun w1 => J.no li ev mem chunk rows log me lost done op w1 HK.out ho)
          have KL : Hid ((Sup.block ⟨id, age, seq, tail⟩).length = 128) := SB.block_length _
          have KF : Hid ((Sup.block ⟨id, age, seq, tail⟩).getD 0 0 = 83) := by show _ = _; rw [SB.block_get _ _ (by decide)]; rfl
          have HNE : Hid (Sup.block ⟨id, age, seq, tail⟩ ≠ Sup.block ⟨id, age, seq', tail'⟩) := fun e => by have := (SB.block_inj (SB.may_iff.1 hm) (SB.may_iff.1 hn) HI.out HI.out).1 e; injection this; contradiction
          generalize Sup.block ⟨id, age, seq, tail⟩ = K at *
          generalize Sup.block ⟨id, age, seq', tail'⟩ = K' at *
          clear hm hn ho
          go_enter Try.func7, Try.ntmps7
          go_wp2_with fail
          generalize (((w.alloc (.cells #[.int .u32 (id : Int), .int .u32 (age : Int), .int .u32 (seq : Int), .int .i64 tail] 28)).alloc (.cells #[.int .u32 (id : Int), .int .u32 (age : Int), .int .u32 (seq' : Int), .int .i64 tail'] 28)).alloc (.cells #[.int .u32 (li : Int), .int .u32 (ev : Int), .int .i64 mem, .int .i64 chunk, .int .i64 rows, .int .i64 log, .int .i64 me, .int .i64 lost, .int .i64 done, .bool op] 43)) = W0 at *
          obtain ⟨c0, c1, c2, c3⟩ := BX.out.four'
          have ltBX := BX.out.lt
          obtain ⟨d0, d1, d2, d3⟩ := BY.out.four'
          have ltBY := BY.out.lt
          obtain ⟨l0, l1, l2, l3, l4, l5, l6, l7, l8, l9⟩ := BZ.out.ten'
          have ltBZ := BZ.out.lt
          (with_reducible refine (CA.out _).mono ?_)
          rintro e w1 ⟨rfl, b1⟩
          clear c0 c1 c2 c3 d0 d1 d2 d3 l0 l1 l2 l3 l4 l5 l6 l7 l8 l9 ltBX ltBY ltBZ
          replace BX := Lib.hid (BX.out.here b1)
          replace BY := Lib.hid (BY.out.here b1)
          replace BZ := Lib.hid (BZ.out.here b1)
          have B1 := Lib.hid (thence B0.out b1 (Nat.le_refl _))
          clear b1 B0
          obtain ⟨c0, c1, c2, c3⟩ := BX.out.four'
          have ltBX := BX.out.lt
          obtain ⟨d0, d1, d2, d3⟩ := BY.out.four'
          have ltBY := BY.out.lt
          obtain ⟨l0, l1, l2, l3, l4, l5, l6, l7, l8, l9⟩ := BZ.out.ten'
          have ltBZ := BZ.out.lt
          go_wp2_with fail
          (with_reducible refine (CW.out _).mono ?_)
          rintro e w2 ⟨a1, k1, rfl, r1, -, b2⟩
          clear c0 c1 c2 c3 d0 d1 d2 d3 l0 l1 l2 l3 l4 l5 l6 l7 l8 l9 ltBX ltBY ltBZ
          replace BX := Lib.hid (BX.out.here b2)
          replace BY := Lib.hid (BY.out.here b2)
          replace BZ := Lib.hid (BZ.out.here b2)
          have B2 := Lib.hid (thence B1.out b2 (Nat.le_refl _))
          have R1 := Lib.hid r1
          clear r1
          clear b2 B1
          obtain ⟨c0, c1, c2, c3⟩ := BX.out.four'
          have ltBX := BX.out.lt
          obtain ⟨d0, d1, d2, d3⟩ := BY.out.four'
          have ltBY := BY.out.lt
          obtain ⟨l0, l1, l2, l3, l4, l5, l6, l7, l8, l9⟩ := BZ.out.ten'
          have ltBZ := BZ.out.lt
          go_wp2_with fail
          (with_reducible refine (CV.out _).mono ?_)
          rintro e w3 ⟨a2, k2, rfl, r2, -, b3⟩
          clear c0 c1 c2 c3 d0 d1 d2 d3 l0 l1 l2 l3 l4 l5 l6 l7 l8 l9 ltBX ltBY ltBZ
          replace BX := Lib.hid (BX.out.here b3)
          replace BY := Lib.hid (BY.out.here b3)
          replace BZ := Lib.hid (BZ.out.here b3)
          replace R1 := Lib.hid (R1.out.here b3)
          have B3 := Lib.hid (thence B2.out b3 (Nat.le_refl _))
          have R2 := Lib.hid r2
          clear r2
          clear b3 B2
          obtain ⟨c0, c1, c2, c3⟩ := BX.out.four'
          have ltBX := BX.out.lt
          obtain ⟨d0, d1, d2, d3⟩ := BY.out.four'
          have ltBY := BY.out.lt
          obtain ⟨l0, l1, l2, l3, l4, l5, l6, l7, l8, l9⟩ := BZ.out.ten'
          have ltBZ := BZ.out.lt
          have T1 := fun nq => text_is (w3.drewN nq) _ _ _ _ (R1.out.drewN nq)
          have T2 := fun nq => text_is (w3.drewN nq) _ _ _ _ (R2.out.drewN nq)
          have HS := str_apart R1.out.byt R2.out.byt HNE.out
          go_wp2_with fail
          go_quiet (fail)
          rename_i nq
          clear c0 c1 c2 c3 d0 d1 d2 d3 l0 l1 l2 l3 l4 l5 l6 l7 l8 l9 ltBX ltBY ltBZ
          replace BX := Lib.hid (BX.out.here (below_drewN (Below.refl _ _) nq))
          replace BY := Lib.hid (BY.out.here (below_drewN (Below.refl _ _) nq))
          replace BZ := Lib.hid (BZ.out.here (below_drewN (Below.refl _ _) nq))
          replace R1 := Lib.hid (R1.out.here (below_drewN (Below.refl _ _) nq))
          replace R2 := Lib.hid (R2.out.here (below_drewN (Below.refl _ _) nq))
          replace B3 := Lib.hid (below_drewN B3.out nq)
          clear T1 T2 HS
          generalize w3.drewN nq = w3' at *
          obtain ⟨c0, c1, c2, c3⟩ := BX.out.four'
          have ltBX := BX.out.lt
          obtain ⟨d0, d1, d2, d3⟩ := BY.out.four'
          have ltBY := BY.out.lt
          obtain ⟨l0, l1, l2, l3, l4, l5, l6, l7, l8, l9⟩ := BZ.out.ten'
          have ltBZ := BZ.out.lt
          have CR : Hid (∀ (a : Option Addr) (n : Nat) (w1 : World), Rd w1.heap.size w1 a 128 n K → Calls Try.prog 17 #[.slice a 128 n] w1 fun e w' => e = .returned (.tuple #[.agg #[.int .u32 0, .int .u32 0, .int .i64 0, .int .i64 0, .int .i64 0, .int .i64 0, .int .i64 0, .int .i64 0, .int .i64 0, .bool false], .int .i64 90]) ∧ Below w1.heap.size w1 w') := fun a n w1 hr => J.read a 128 n K w1 hr (by rw [LB.rd_first (.inr KL.out) (by rw [KF.out]; decide)])
          go_wp2_with fail
          (with_reducible refine (CR.out _ _ _ R1.out).mono ?_)
          rintro e w4 ⟨rfl, b4⟩
          clear c0 c1 c2 c3 d0 d1 d2 d3 l0 l1 l2 l3 l4 l5 l6 l7 l8 l9 ltBX ltBY ltBZ
          replace BX := Lib.hid (BX.out.here b4)
          replace BY := Lib.hid (BY.out.here b4)
          replace BZ := Lib.hid (BZ.out.here b4)
          replace R1 := Lib.hid (R1.out.here b4)
          replace R2 := Lib.hid (R2.out.here b4)
          have ha4 : Below w4.heap.size w4 (w4.alloc (.cells #[.int .u32 0, .int .u32 0, .int .i64 0, .int .i64 0, .int .i64 0, .int .i64 0, .int .i64 0, .int .i64 0, .int .i64 0, .bool false] 43)) := (Below.refl _ _).alloc (Nat.le_refl _) _
          replace BX := Lib.hid (BX.out.here ha4)
          replace BY := Lib.hid (BY.out.here ha4)
          replace BZ := Lib.hid (BZ.out.here ha4)
          replace R1 := Lib.hid (R1.out.here ha4)
          replace R2 := Lib.hid (R2.out.here ha4)
          have BL : Hid (Bx (w4.alloc (.cells #[.int .u32 0, .int .u32 0, .int .i64 0, .int .i64 0, .int .i64 0, .int .i64 0, .int .i64 0, .int .i64 0, .int .i64 0, .bool false] 43)) w4.heap.size [.int .u32 0, .int .u32 0, .int .i64 0, .int .i64 0, .int .i64 0, .int .i64 0, .int .i64 0, .int .i64 0, .int .i64 0, .bool false]) := Bx.new w4 [.int .u32 0, .int .u32 0, .int .i64 0, .int .i64 0, .int .i64 0, .int .i64 0, .int .i64 0, .int .i64 0, .int .i64 0, .bool false] 43
          have B4 := Lib.hid (thence B3.out (thence b4 ha4 (Nat.le_refl _)) (Nat.le_refl _))
          clear ha4
          clear b4 B3
          obtain ⟨c0, c1, c2, c3⟩ := BX.out.four'
          have ltBX := BX.out.lt
          obtain ⟨d0, d1, d2, d3⟩ := BY.out.four'
          have ltBY := BY.out.lt
          obtain ⟨l0, l1, l2, l3, l4, l5, l6, l7, l8, l9⟩ := BZ.out.ten'
          have ltBZ := BZ.out.lt
          go_wp2_with fail
          (with_reducible refine (CL.out _).mono ?_)
          rintro e w5 ⟨a5, k5, rfl, -, b5⟩
          clear c0 c1 c2 c3 d0 d1 d2 d3 l0 l1 l2 l3 l4 l5 l6 l7 l8 l9 ltBX ltBY ltBZ
          replace BX := Lib.hid (BX.out.here b5)
          replace BY := Lib.hid (BY.out.here b5)
          replace BZ := Lib.hid (BZ.out.here b5)
          replace R1 := Lib.hid (R1.out.here b5)
          replace R2 := Lib.hid (R2.out.here b5)
          replace BL := Lib.hid (BL.out.here b5)
          have B5 := Lib.hid (thence B4.out b5 (Nat.le_refl _))
          clear b5 B4
          obtain ⟨c0, c1, c2, c3⟩ := BX.out.four'
          have ltBX := BX.out.lt
          obtain ⟨d0, d1, d2, d3⟩ := BY.out.four'
          have ltBY := BY.out.lt
          obtain ⟨l0, l1, l2, l3, l4, l5, l6, l7, l8, l9⟩ := BZ.out.ten'
          have ltBZ := BZ.out.lt
          go_wp2_with fail
          go_ret
          exact ⟨rfl, B5.out⟩
      subst q2
      by_cases q3 : tail = tail'
      case neg =>
        have n1 : (tail == tail') = false := beq_eq_false_iff_ne.2 q3
        cases ho : LB.Lab.may ⟨li, ev, mem, chunk, rows, log, me, lost, done, op⟩ with
        | true =>
          have CW := Lib.hid (fun w1 => I.yes id age seq tail w1 HI.out (SB.may_iff.1 hm))
          have CV := Lib.hid (fun w1 => I.yes id age seq tail' w1 HI.out (SB.may_iff.1 hn))
          have CL := Lib.hid (fun w1 => J.yes li ev mem chunk rows log me lost done op w1 HK.out (LB.may_iff.1 ho))
          have KL : Hid ((Sup.block ⟨id, age, seq, tail⟩).length = 128) := SB.block_length _
          have KF : Hid ((Sup.block ⟨id, age, seq, tail⟩).getD 0 0 = 83) := by show _ = _; rw [SB.block_get _ _ (by decide)]; rfl
          have QL : Hid ((LB.Lab.block ⟨li, ev, mem, chunk, rows, log, me, lost, done, op⟩).length = 128) := LB.block_length _
          have QF : Hid ((LB.Lab.block ⟨li, ev, mem, chunk, rows, log, me, lost, done, op⟩).getD 0 0 = 76) := by show _ = _; rw [LB.block_get _ _ (by decide)]; rfl
          generalize LB.Lab.block ⟨li, ev, mem, chunk, rows, log, me, lost, done, op⟩ = Q at *
          have HNE : Hid (Sup.block ⟨id, age, seq, tail⟩ ≠ Sup.block ⟨id, age, seq, tail'⟩) := fun e => by have := (SB.block_inj (SB.may_iff.1 hm) (SB.may_iff.1 hn) HI.out HI.out).1 e; injection this; contradiction
          generalize Sup.block ⟨id, age, seq, tail⟩ = K at *
          generalize Sup.block ⟨id, age, seq, tail'⟩ = K' at *
          clear hm hn ho
          go_enter Try.func7, Try.ntmps7
          go_wp2_with fail
          generalize (((w.alloc (.cells #[.int .u32 (id : Int), .int .u32 (age : Int), .int .u32 (seq : Int), .int .i64 tail] 28)).alloc (.cells #[.int .u32 (id : Int), .int .u32 (age : Int), .int .u32 (seq : Int), .int .i64 tail'] 28)).alloc (.cells #[.int .u32 (li : Int), .int .u32 (ev : Int), .int .i64 mem, .int .i64 chunk, .int .i64 rows, .int .i64 log, .int .i64 me, .int .i64 lost, .int .i64 done, .bool op] 43)) = W0 at *
          obtain ⟨c0, c1, c2, c3⟩ := BX.out.four'
          have ltBX := BX.out.lt
          obtain ⟨d0, d1, d2, d3⟩ := BY.out.four'
          have ltBY := BY.out.lt
          obtain ⟨l0, l1, l2, l3, l4, l5, l6, l7, l8, l9⟩ := BZ.out.ten'
          have ltBZ := BZ.out.lt
          (with_reducible refine (CA.out _).mono ?_)
          rintro e w1 ⟨rfl, b1⟩
          clear c0 c1 c2 c3 d0 d1 d2 d3 l0 l1 l2 l3 l4 l5 l6 l7 l8 l9 ltBX ltBY ltBZ
          replace BX := Lib.hid (BX.out.here b1)
          replace BY := Lib.hid (BY.out.here b1)
          replace BZ := Lib.hid (BZ.out.here b1)
          have B1 := Lib.hid (thence B0.out b1 (Nat.le_refl _))
          clear b1 B0
          obtain ⟨c0, c1, c2, c3⟩ := BX.out.four'
          have ltBX := BX.out.lt
          obtain ⟨d0, d1, d2, d3⟩ := BY.out.four'
          have ltBY := BY.out.lt
          obtain ⟨l0, l1, l2, l3, l4, l5, l6, l7, l8, l9⟩ := BZ.out.ten'
          have ltBZ := BZ.out.lt
          go_wp2_with fail
          (with_reducible refine (CW.out _).mono ?_)
          rintro e w2 ⟨a1, k1, rfl, r1, -, b2⟩
          clear c0 c1 c2 c3 d0 d1 d2 d3 l0 l1 l2 l3 l4 l5 l6 l7 l8 l9 ltBX ltBY ltBZ
          replace BX := Lib.hid (BX.out.here b2)
          replace BY := Lib.hid (BY.out.here b2)
          replace BZ := Lib.hid (BZ.out.here b2)
          have B2 := Lib.hid (thence B1.out b2 (Nat.le_refl _))
          have R1 := Lib.hid r1
          clear r1
          clear b2 B1
          obtain ⟨c0, c1, c2, c3⟩ := BX.out.four'
          have ltBX := BX.out.lt
          obtain ⟨d0, d1, d2, d3⟩ := BY.out.four'
          have ltBY := BY.out.lt
          obtain ⟨l0, l1, l2, l3, l4, l5, l6, l7, l8, l9⟩ := BZ.out.ten'
          have ltBZ := BZ.out.lt
          go_wp2_with fail
          (with_reducible refine (CV.out _).mono ?_)
          rintro e w3 ⟨a2, k2, rfl, r2, -, b3⟩
          clear c0 c1 c2 c3 d0 d1 d2 d3 l0 l1 l2 l3 l4 l5 l6 l7 l8 l9 ltBX ltBY ltBZ
          replace BX := Lib.hid (BX.out.here b3)
          replace BY := Lib.hid (BY.out.here b3)
          replace BZ := Lib.hid (BZ.out.here b3)
          replace R1 := Lib.hid (R1.out.here b3)
          have B3 := Lib.hid (thence B2.out b3 (Nat.le_refl _))
          have R2 := Lib.hid r2
          clear r2
          clear b3 B2
          obtain ⟨c0, c1, c2, c3⟩ := BX.out.four'
          have ltBX := BX.out.lt
          obtain ⟨d0, d1, d2, d3⟩ := BY.out.four'
          have ltBY := BY.out.lt
          obtain ⟨l0, l1, l2, l3, l4, l5, l6, l7, l8, l9⟩ := BZ.out.ten'
          have ltBZ := BZ.out.lt
          have T1 := fun nq => text_is (w3.drewN nq) _ _ _ _ (R1.out.drewN nq)
          have T2 := fun nq => text_is (w3.drewN nq) _ _ _ _ (R2.out.drewN nq)
          have HS := str_apart R1.out.byt R2.out.byt HNE.out
          go_wp2_with fail
          go_quiet (fail)
          rename_i nq
          clear c0 c1 c2 c3 d0 d1 d2 d3 l0 l1 l2 l3 l4 l5 l6 l7 l8 l9 ltBX ltBY ltBZ
          replace BX := Lib.hid (BX.out.here (below_drewN (Below.refl _ _) nq))
          replace BY := Lib.hid (BY.out.here (below_drewN (Below.refl _ _) nq))
          replace BZ := Lib.hid (BZ.out.here (below_drewN (Below.refl _ _) nq))
          replace R1 := Lib.hid (R1.out.here (below_drewN (Below.refl _ _) nq))
          replace R2 := Lib.hid (R2.out.here (below_drewN (Below.refl _ _) nq))
          replace B3 := Lib.hid (below_drewN B3.out nq)
          clear T1 T2 HS
          generalize w3.drewN nq = w3' at *
          obtain ⟨c0, c1, c2, c3⟩ := BX.out.four'
          have ltBX := BX.out.lt
          obtain ⟨d0, d1, d2, d3⟩ := BY.out.four'
          have ltBY := BY.out.lt
          obtain ⟨l0, l1, l2, l3, l4, l5, l6, l7, l8, l9⟩ := BZ.out.ten'
          have ltBZ := BZ.out.lt
          have CR : Hid (∀ (a : Option Addr) (n : Nat) (w1 : World), Rd w1.heap.size w1 a 128 n K → Calls Try.prog 17 #[.slice a 128 n] w1 fun e w' => e = .returned (.tuple #[.agg #[.int .u32 0, .int .u32 0, .int .i64 0, .int .i64 0, .int .i64 0, .int .i64 0, .int .i64 0, .int .i64 0, .int .i64 0, .bool false], .int .i64 90]) ∧ Below w1.heap.size w1 w') := fun a n w1 hr => J.read a 128 n K w1 hr (by rw [LB.rd_first (.inr KL.out) (by rw [KF.out]; decide)])
          go_wp2_with fail
          (with_reducible refine (CR.out _ _ _ R1.out).mono ?_)
          rintro e w4 ⟨rfl, b4⟩
          clear c0 c1 c2 c3 d0 d1 d2 d3 l0 l1 l2 l3 l4 l5 l6 l7 l8 l9 ltBX ltBY ltBZ
          replace BX := Lib.hid (BX.out.here b4)
          replace BY := Lib.hid (BY.out.here b4)
          replace BZ := Lib.hid (BZ.out.here b4)
          replace R1 := Lib.hid (R1.out.here b4)
          replace R2 := Lib.hid (R2.out.here b4)
          have ha4 : Below w4.heap.size w4 (w4.alloc (.cells #[.int .u32 0, .int .u32 0, .int .i64 0, .int .i64 0, .int .i64 0, .int .i64 0, .int .i64 0, .int .i64 0, .int .i64 0, .bool false] 43)) := (Below.refl _ _).alloc (Nat.le_refl _) _
          replace BX := Lib.hid (BX.out.here ha4)
          replace BY := Lib.hid (BY.out.here ha4)
          replace BZ := Lib.hid (BZ.out.here ha4)
          replace R1 := Lib.hid (R1.out.here ha4)
          replace R2 := Lib.hid (R2.out.here ha4)
          have BL : Hid (Bx (w4.alloc (.cells #[.int .u32 0, .int .u32 0, .int .i64 0, .int .i64 0, .int .i64 0, .int .i64 0, .int .i64 0, .int .i64 0, .int .i64 0, .bool false] 43)) w4.heap.size [.int .u32 0, .int .u32 0, .int .i64 0, .int .i64 0, .int .i64 0, .int .i64 0, .int .i64 0, .int .i64 0, .int .i64 0, .bool false]) := Bx.new w4 [.int .u32 0, .int .u32 0, .int .i64 0, .int .i64 0, .int .i64 0, .int .i64 0, .int .i64 0, .int .i64 0, .int .i64 0, .bool false] 43
          have B4 := Lib.hid (thence B3.out (thence b4 ha4 (Nat.le_refl _)) (Nat.le_refl _))
          clear ha4
          clear b4 B3
          obtain ⟨c0, c1, c2, c3⟩ := BX.out.four'
          have ltBX := BX.out.lt
          obtain ⟨d0, d1, d2, d3⟩ := BY.out.four'
          have ltBY := BY.out.lt
          obtain ⟨l0, l1, l2, l3, l4, l5, l6, l7, l8, l9⟩ := BZ.out.ten'
          have ltBZ := BZ.out.lt
          go_wp2_with fail
          (with_reducible refine (CL.out _).mono ?_)
          rintro e w5 ⟨a5, k5, rfl, r5, -, b5⟩
          clear c0 c1 c2 c3 d0 d1 d2 d3 l0 l1 l2 l3 l4 l5 l6 l7 l8 l9 ltBX ltBY ltBZ
          replace BX := Lib.hid (BX.out.here b5)
          replace BY := Lib.hid (BY.out.here b5)
          replace BZ := Lib.hid (BZ.out.here b5)
          replace R1 := Lib.hid (R1.out.here b5)
          replace R2 := Lib.hid (R2.out.here b5)
          replace BL := Lib.hid (BL.out.here b5)
          have B5 := Lib.hid (thence B4.out b5 (Nat.le_refl _))
          have R5 := Lib.hid r5
          clear r5
          clear b5 B4
          obtain ⟨c0, c1, c2, c3⟩ := BX.out.four'
          have ltBX := BX.out.lt
          obtain ⟨d0, d1, d2, d3⟩ := BY.out.four'
          have ltBY := BY.out.lt
          obtain ⟨l0, l1, l2, l3, l4, l5, l6, l7, l8, l9⟩ := BZ.out.ten'
          have ltBZ := BZ.out.lt
          have CS : Hid (∀ (a : Option Addr) (n : Nat) (w1 : World), Rd w1.heap.size w1 a 128 n Q → Calls Try.prog 11 #[.slice a 128 n] w1 fun e w' => e = .returned (.tuple #[.agg #[.int .u32 0, .int .u32 0, .int .u32 0, .int .i64 0], .int .i64 90]) ∧ Below w1.heap.size w1 w') := fun a n w1 hr => by have := I.read a 128 n Q w1 hr; rw [SB.rd_first (.inr QL.out) (by rw [QF.out]; decide)] at this; exact this
          go_wp2_with fail
          (with_reducible refine (CS.out _ _ _ R5.out).mono ?_)
          rintro e w6 ⟨rfl, b6⟩
          clear c0 c1 c2 c3 d0 d1 d2 d3 l0 l1 l2 l3 l4 l5 l6 l7 l8 l9 ltBX ltBY ltBZ
          replace BX := Lib.hid (BX.out.here b6)
          replace BY := Lib.hid (BY.out.here b6)
          replace BZ := Lib.hid (BZ.out.here b6)
          replace R1 := Lib.hid (R1.out.here b6)
          replace R2 := Lib.hid (R2.out.here b6)
          replace BL := Lib.hid (BL.out.here b6)
          replace R5 := Lib.hid (R5.out.here b6)
          have ha6 : Below w6.heap.size w6 (w6.alloc (.cells #[.int .u32 0, .int .u32 0, .int .u32 0, .int .i64 0] 28)) := (Below.refl _ _).alloc (Nat.le_refl _) _
          replace BX := Lib.hid (BX.out.here ha6)
          replace BY := Lib.hid (BY.out.here ha6)
          replace BZ := Lib.hid (BZ.out.here ha6)
          replace R1 := Lib.hid (R1.out.here ha6)
          replace R2 := Lib.hid (R2.out.here ha6)
          replace BL := Lib.hid (BL.out.here ha6)
          replace R5 := Lib.hid (R5.out.here ha6)
          have BM : Hid (Bx (w6.alloc (.cells #[.int .u32 0, .int .u32 0, .int .u32 0, .int .i64 0] 28)) w6.heap.size [.int .u32 0, .int .u32 0, .int .u32 0, .int .i64 0]) := Bx.new w6 [.int .u32 0, .int .u32 0, .int .u32 0, .int .i64 0] 28
          have B6 := Lib.hid (thence B5.out (thence b6 ha6 (Nat.le_refl _)) (Nat.le_refl _))
          clear ha6
          clear b6 B5
          obtain ⟨c0, c1, c2, c3⟩ := BX.out.four'
          have ltBX := BX.out.lt
          obtain ⟨d0, d1, d2, d3⟩ := BY.out.four'
          have ltBY := BY.out.lt
          obtain ⟨l0, l1, l2, l3, l4, l5, l6, l7, l8, l9⟩ := BZ.out.ten'
          have ltBZ := BZ.out.lt
          go_wp2_with fail
          go_ret
          exact ⟨rfl, B6.out⟩
        | false =>
          have CW := Lib.hid (fun w1 => I.yes id age seq tail w1 HI.out (SB.may_iff.1 hm))
          have CV := Lib.hid (fun w1 => I.yes id age seq tail' w1 HI.out (SB.may_iff.1 hn))
          have CL := Lib.hid (fun w1 => J.no li ev mem chunk rows log me lost done op w1 HK.out ho)
          have KL : Hid ((Sup.block ⟨id, age, seq, tail⟩).length = 128) := SB.block_length _
          have KF : Hid ((Sup.block ⟨id, age, seq, tail⟩).getD 0 0 = 83) := by show _ = _; rw [SB.block_get _ _ (by decide)]; rfl
          have HNE : Hid (Sup.block ⟨id, age, seq, tail⟩ ≠ Sup.block ⟨id, age, seq, tail'⟩) := fun e => by have := (SB.block_inj (SB.may_iff.1 hm) (SB.may_iff.1 hn) HI.out HI.out).1 e; injection this; contradiction
          generalize Sup.block ⟨id, age, seq, tail⟩ = K at *
          generalize Sup.block ⟨id, age, seq, tail'⟩ = K' at *
          clear hm hn ho
          go_enter Try.func7, Try.ntmps7
          go_wp2_with fail
          generalize (((w.alloc (.cells #[.int .u32 (id : Int), .int .u32 (age : Int), .int .u32 (seq : Int), .int .i64 tail] 28)).alloc (.cells #[.int .u32 (id : Int), .int .u32 (age : Int), .int .u32 (seq : Int), .int .i64 tail'] 28)).alloc (.cells #[.int .u32 (li : Int), .int .u32 (ev : Int), .int .i64 mem, .int .i64 chunk, .int .i64 rows, .int .i64 log, .int .i64 me, .int .i64 lost, .int .i64 done, .bool op] 43)) = W0 at *
          obtain ⟨c0, c1, c2, c3⟩ := BX.out.four'
          have ltBX := BX.out.lt
          obtain ⟨d0, d1, d2, d3⟩ := BY.out.four'
          have ltBY := BY.out.lt
          obtain ⟨l0, l1, l2, l3, l4, l5, l6, l7, l8, l9⟩ := BZ.out.ten'
          have ltBZ := BZ.out.lt
          (with_reducible refine (CA.out _).mono ?_)
          rintro e w1 ⟨rfl, b1⟩
          clear c0 c1 c2 c3 d0 d1 d2 d3 l0 l1 l2 l3 l4 l5 l6 l7 l8 l9 ltBX ltBY ltBZ
          replace BX := Lib.hid (BX.out.here b1)
          replace BY := Lib.hid (BY.out.here b1)
          replace BZ := Lib.hid (BZ.out.here b1)
          have B1 := Lib.hid (thence B0.out b1 (Nat.le_refl _))
          clear b1 B0
          obtain ⟨c0, c1, c2, c3⟩ := BX.out.four'
          have ltBX := BX.out.lt
          obtain ⟨d0, d1, d2, d3⟩ := BY.out.four'
          have ltBY := BY.out.lt
          obtain ⟨l0, l1, l2, l3, l4, l5, l6, l7, l8, l9⟩ := BZ.out.ten'
          have ltBZ := BZ.out.lt
          go_wp2_with fail
          (with_reducible refine (CW.out _).mono ?_)
          rintro e w2 ⟨a1, k1, rfl, r1, -, b2⟩
          clear c0 c1 c2 c3 d0 d1 d2 d3 l0 l1 l2 l3 l4 l5 l6 l7 l8 l9 ltBX ltBY ltBZ
          replace BX := Lib.hid (BX.out.here b2)
          replace BY := Lib.hid (BY.out.here b2)
          replace BZ := Lib.hid (BZ.out.here b2)
          have B2 := Lib.hid (thence B1.out b2 (Nat.le_refl _))
          have R1 := Lib.hid r1
          clear r1
          clear b2 B1
          obtain ⟨c0, c1, c2, c3⟩ := BX.out.four'
          have ltBX := BX.out.lt
          obtain ⟨d0, d1, d2, d3⟩ := BY.out.four'
          have ltBY := BY.out.lt
          obtain ⟨l0, l1, l2, l3, l4, l5, l6, l7, l8, l9⟩ := BZ.out.ten'
          have ltBZ := BZ.out.lt
          go_wp2_with fail
          (with_reducible refine (CV.out _).mono ?_)
          rintro e w3 ⟨a2, k2, rfl, r2, -, b3⟩
          clear c0 c1 c2 c3 d0 d1 d2 d3 l0 l1 l2 l3 l4 l5 l6 l7 l8 l9 ltBX ltBY ltBZ
          replace BX := Lib.hid (BX.out.here b3)
          replace BY := Lib.hid (BY.out.here b3)
          replace BZ := Lib.hid (BZ.out.here b3)
          replace R1 := Lib.hid (R1.out.here b3)
          have B3 := Lib.hid (thence B2.out b3 (Nat.le_refl _))
          have R2 := Lib.hid r2
          clear r2
          clear b3 B2
          obtain ⟨c0, c1, c2, c3⟩ := BX.out.four'
          have ltBX := BX.out.lt
          obtain ⟨d0, d1, d2, d3⟩ := BY.out.four'
          have ltBY := BY.out.lt
          obtain ⟨l0, l1, l2, l3, l4, l5, l6, l7, l8, l9⟩ := BZ.out.ten'
          have ltBZ := BZ.out.lt
          have T1 := fun nq => text_is (w3.drewN nq) _ _ _ _ (R1.out.drewN nq)
          have T2 := fun nq => text_is (w3.drewN nq) _ _ _ _ (R2.out.drewN nq)
          have HS := str_apart R1.out.byt R2.out.byt HNE.out
          go_wp2_with fail
          go_quiet (fail)
          rename_i nq
          clear c0 c1 c2 c3 d0 d1 d2 d3 l0 l1 l2 l3 l4 l5 l6 l7 l8 l9 ltBX ltBY ltBZ
          replace BX := Lib.hid (BX.out.here (below_drewN (Below.refl _ _) nq))
          replace BY := Lib.hid (BY.out.here (below_drewN (Below.refl _ _) nq))
          replace BZ := Lib.hid (BZ.out.here (below_drewN (Below.refl _ _) nq))
          replace R1 := Lib.hid (R1.out.here (below_drewN (Below.refl _ _) nq))
          replace R2 := Lib.hid (R2.out.here (below_drewN (Below.refl _ _) nq))
          replace B3 := Lib.hid (below_drewN B3.out nq)
          clear T1 T2 HS
          generalize w3.drewN nq = w3' at *
          obtain ⟨c0, c1, c2, c3⟩ := BX.out.four'
          have ltBX := BX.out.lt
          obtain ⟨d0, d1, d2, d3⟩ := BY.out.four'
          have ltBY := BY.out.lt
          obtain ⟨l0, l1, l2, l3, l4, l5, l6, l7, l8, l9⟩ := BZ.out.ten'
          have ltBZ := BZ.out.lt
          have CR : Hid (∀ (a : Option Addr) (n : Nat) (w1 : World), Rd w1.heap.size w1 a 128 n K → Calls Try.prog 17 #[.slice a 128 n] w1 fun e w' => e = .returned (.tuple #[.agg #[.int .u32 0, .int .u32 0, .int .i64 0, .int .i64 0, .int .i64 0, .int .i64 0, .int .i64 0, .int .i64 0, .int .i64 0, .bool false], .int .i64 90]) ∧ Below w1.heap.size w1 w') := fun a n w1 hr => J.read a 128 n K w1 hr (by rw [LB.rd_first (.inr KL.out) (by rw [KF.out]; decide)])
          go_wp2_with fail
          (with_reducible refine (CR.out _ _ _ R1.out).mono ?_)
          rintro e w4 ⟨rfl, b4⟩
          clear c0 c1 c2 c3 d0 d1 d2 d3 l0 l1 l2 l3 l4 l5 l6 l7 l8 l9 ltBX ltBY ltBZ
          replace BX := Lib.hid (BX.out.here b4)
          replace BY := Lib.hid (BY.out.here b4)
          replace BZ := Lib.hid (BZ.out.here b4)
          replace R1 := Lib.hid (R1.out.here b4)
          replace R2 := Lib.hid (R2.out.here b4)
          have ha4 : Below w4.heap.size w4 (w4.alloc (.cells #[.int .u32 0, .int .u32 0, .int .i64 0, .int .i64 0, .int .i64 0, .int .i64 0, .int .i64 0, .int .i64 0, .int .i64 0, .bool false] 43)) := (Below.refl _ _).alloc (Nat.le_refl _) _
          replace BX := Lib.hid (BX.out.here ha4)
          replace BY := Lib.hid (BY.out.here ha4)
          replace BZ := Lib.hid (BZ.out.here ha4)
          replace R1 := Lib.hid (R1.out.here ha4)
          replace R2 := Lib.hid (R2.out.here ha4)
          have BL : Hid (Bx (w4.alloc (.cells #[.int .u32 0, .int .u32 0, .int .i64 0, .int .i64 0, .int .i64 0, .int .i64 0, .int .i64 0, .int .i64 0, .int .i64 0, .bool false] 43)) w4.heap.size [.int .u32 0, .int .u32 0, .int .i64 0, .int .i64 0, .int .i64 0, .int .i64 0, .int .i64 0, .int .i64 0, .int .i64 0, .bool false]) := Bx.new w4 [.int .u32 0, .int .u32 0, .int .i64 0, .int .i64 0, .int .i64 0, .int .i64 0, .int .i64 0, .int .i64 0, .int .i64 0, .bool false] 43
          have B4 := Lib.hid (thence B3.out (thence b4 ha4 (Nat.le_refl _)) (Nat.le_refl _))
          clear ha4
          clear b4 B3
          obtain ⟨c0, c1, c2, c3⟩ := BX.out.four'
          have ltBX := BX.out.lt
          obtain ⟨d0, d1, d2, d3⟩ := BY.out.four'
          have ltBY := BY.out.lt
          obtain ⟨l0, l1, l2, l3, l4, l5, l6, l7, l8, l9⟩ := BZ.out.ten'
          have ltBZ := BZ.out.lt
          go_wp2_with fail
          (with_reducible refine (CL.out _).mono ?_)
          rintro e w5 ⟨a5, k5, rfl, -, b5⟩
          clear c0 c1 c2 c3 d0 d1 d2 d3 l0 l1 l2 l3 l4 l5 l6 l7 l8 l9 ltBX ltBY ltBZ
          replace BX := Lib.hid (BX.out.here b5)
          replace BY := Lib.hid (BY.out.here b5)
          replace BZ := Lib.hid (BZ.out.here b5)
          replace R1 := Lib.hid (R1.out.here b5)
          replace R2 := Lib.hid (R2.out.here b5)
          replace BL := Lib.hid (BL.out.here b5)
          have B5 := Lib.hid (thence B4.out b5 (Nat.le_refl _))
          clear b5 B4
          obtain ⟨c0, c1, c2, c3⟩ := BX.out.four'
          have ltBX := BX.out.lt
          obtain ⟨d0, d1, d2, d3⟩ := BY.out.four'
          have ltBY := BY.out.lt
          obtain ⟨l0, l1, l2, l3, l4, l5, l6, l7, l8, l9⟩ := BZ.out.ten'
          have ltBZ := BZ.out.lt
          go_wp2_with fail
          go_ret
          exact ⟨rfl, B5.out⟩
      subst q3
      cases ho : LB.Lab.may ⟨li, ev, mem, chunk, rows, log, me, lost, done, op⟩ with
      | true =>
        have CW := Lib.hid (fun w1 => I.yes id age seq tail w1 HI.out (SB.may_iff.1 hm))
        have CV := Lib.hid (fun w1 => I.yes id age seq tail w1 HI.out (SB.may_iff.1 hn))
        have CL := Lib.hid (fun w1 => J.yes li ev mem chunk rows log me lost done op w1 HK.out (LB.may_iff.1 ho))
        have KL : Hid ((Sup.block ⟨id, age, seq, tail⟩).length = 128) := SB.block_length _
        have KF : Hid ((Sup.block ⟨id, age, seq, tail⟩).getD 0 0 = 83) := by show _ = _; rw [SB.block_get _ _ (by decide)]; rfl
        have QL : Hid ((LB.Lab.block ⟨li, ev, mem, chunk, rows, log, me, lost, done, op⟩).length = 128) := LB.block_length _
        have QF : Hid ((LB.Lab.block ⟨li, ev, mem, chunk, rows, log, me, lost, done, op⟩).getD 0 0 = 76) := by show _ = _; rw [LB.block_get _ _ (by decide)]; rfl
        generalize LB.Lab.block ⟨li, ev, mem, chunk, rows, log, me, lost, done, op⟩ = Q at *
        generalize Sup.block ⟨id, age, seq, tail⟩ = K at *
        clear hm hn ho
        go_enter Try.func7, Try.ntmps7
        go_wp2_with fail
        generalize (((w.alloc (.cells #[.int .u32 (id : Int), .int .u32 (age : Int), .int .u32 (seq : Int), .int .i64 tail] 28)).alloc (.cells #[.int .u32 (id : Int), .int .u32 (age : Int), .int .u32 (seq : Int), .int .i64 tail] 28)).alloc (.cells #[.int .u32 (li : Int), .int .u32 (ev : Int), .int .i64 mem, .int .i64 chunk, .int .i64 rows, .int .i64 log, .int .i64 me, .int .i64 lost, .int .i64 done, .bool op] 43)) = W0 at *
        obtain ⟨c0, c1, c2, c3⟩ := BX.out.four'
        have ltBX := BX.out.lt
        obtain ⟨d0, d1, d2, d3⟩ := BY.out.four'
        have ltBY := BY.out.lt
        obtain ⟨l0, l1, l2, l3, l4, l5, l6, l7, l8, l9⟩ := BZ.out.ten'
        have ltBZ := BZ.out.lt
        (with_reducible refine (CA.out _).mono ?_)
        rintro e w1 ⟨rfl, b1⟩
        clear c0 c1 c2 c3 d0 d1 d2 d3 l0 l1 l2 l3 l4 l5 l6 l7 l8 l9 ltBX ltBY ltBZ
        replace BX := Lib.hid (BX.out.here b1)
        replace BY := Lib.hid (BY.out.here b1)
        replace BZ := Lib.hid (BZ.out.here b1)
        have B1 := Lib.hid (thence B0.out b1 (Nat.le_refl _))
        clear b1 B0
        obtain ⟨c0, c1, c2, c3⟩ := BX.out.four'
        have ltBX := BX.out.lt
        obtain ⟨d0, d1, d2, d3⟩ := BY.out.four'
        have ltBY := BY.out.lt
        obtain ⟨l0, l1, l2, l3, l4, l5, l6, l7, l8, l9⟩ := BZ.out.ten'
        have ltBZ := BZ.out.lt
        go_wp2_with fail
        (with_reducible refine (CW.out _).mono ?_)
        rintro e w2 ⟨a1, k1, rfl, r1, -, b2⟩
        clear c0 c1 c2 c3 d0 d1 d2 d3 l0 l1 l2 l3 l4 l5 l6 l7 l8 l9 ltBX ltBY ltBZ
        replace BX := Lib.hid (BX.out.here b2)
        replace BY := Lib.hid (BY.out.here b2)
        replace BZ := Lib.hid (BZ.out.here b2)
        have B2 := Lib.hid (thence B1.out b2 (Nat.le_refl _))
        have R1 := Lib.hid r1
        clear r1
        clear b2 B1
        obtain ⟨c0, c1, c2, c3⟩ := BX.out.four'
        have ltBX := BX.out.lt
        obtain ⟨d0, d1, d2, d3⟩ := BY.out.four'
        have ltBY := BY.out.lt
        obtain ⟨l0, l1, l2, l3, l4, l5, l6, l7, l8, l9⟩ := BZ.out.ten'
        have ltBZ := BZ.out.lt
        go_wp2_with fail
        (with_reducible refine (CV.out _).mono ?_)
        rintro e w3 ⟨a2, k2, rfl, r2, -, b3⟩
        clear c0 c1 c2 c3 d0 d1 d2 d3 l0 l1 l2 l3 l4 l5 l6 l7 l8 l9 ltBX ltBY ltBZ
        replace BX := Lib.hid (BX.out.here b3)
        replace BY := Lib.hid (BY.out.here b3)
        replace BZ := Lib.hid (BZ.out.here b3)
        replace R1 := Lib.hid (R1.out.here b3)
        have B3 := Lib.hid (thence B2.out b3 (Nat.le_refl _))
        have R2 := Lib.hid r2
        clear r2
        clear b3 B2
        obtain ⟨c0, c1, c2, c3⟩ := BX.out.four'
        have ltBX := BX.out.lt
        obtain ⟨d0, d1, d2, d3⟩ := BY.out.four'
        have ltBY := BY.out.lt
        obtain ⟨l0, l1, l2, l3, l4, l5, l6, l7, l8, l9⟩ := BZ.out.ten'
        have ltBZ := BZ.out.lt
        have T1 := fun nq => text_is (w3.drewN nq) _ _ _ _ (R1.out.drewN nq)
        have T2 := fun nq => text_is (w3.drewN nq) _ _ _ _ (R2.out.drewN nq)
        go_wp2_with fail
        go_quiet (fail)
        rename_i nq
        clear c0 c1 c2 c3 d0 d1 d2 d3 l0 l1 l2 l3 l4 l5 l6 l7 l8 l9 ltBX ltBY ltBZ
        replace BX := Lib.hid (BX.out.here (below_drewN (Below.refl _ _) nq))
        replace BY := Lib.hid (BY.out.here (below_drewN (Below.refl _ _) nq))
        replace BZ := Lib.hid (BZ.out.here (below_drewN (Below.refl _ _) nq))
        replace R1 := Lib.hid (R1.out.here (below_drewN (Below.refl _ _) nq))
        replace R2 := Lib.hid (R2.out.here (below_drewN (Below.refl _ _) nq))
        replace B3 := Lib.hid (below_drewN B3.out nq)
        clear T1 T2
        generalize w3.drewN nq = w3' at *
        obtain ⟨c0, c1, c2, c3⟩ := BX.out.four'
        have ltBX := BX.out.lt
        obtain ⟨d0, d1, d2, d3⟩ := BY.out.four'
        have ltBY := BY.out.lt
        obtain ⟨l0, l1, l2, l3, l4, l5, l6, l7, l8, l9⟩ := BZ.out.ten'
        have ltBZ := BZ.out.lt
        have CR : Hid (∀ (a : Option Addr) (n : Nat) (w1 : World), Rd w1.heap.size w1 a 128 n K → Calls Try.prog 17 #[.slice a 128 n] w1 fun e w' => e = .returned (.tuple #[.agg #[.int .u32 0, .int .u32 0, .int .i64 0, .int .i64 0, .int .i64 0, .int .i64 0, .int .i64 0, .int .i64 0, .int .i64 0, .bool false], .int .i64 90]) ∧ Below w1.heap.size w1 w') := fun a n w1 hr => J.read a 128 n K w1 hr (by rw [LB.rd_first (.inr KL.out) (by rw [KF.out]; decide)])
        go_wp2_with fail
        (with_reducible refine (CR.out _ _ _ R1.out).mono ?_)
        rintro e w4 ⟨rfl, b4⟩
        clear c0 c1 c2 c3 d0 d1 d2 d3 l0 l1 l2 l3 l4 l5 l6 l7 l8 l9 ltBX ltBY ltBZ
        replace BX := Lib.hid (BX.out.here b4)
        replace BY := Lib.hid (BY.out.here b4)
        replace BZ := Lib.hid (BZ.out.here b4)
        replace R1 := Lib.hid (R1.out.here b4)
        replace R2 := Lib.hid (R2.out.here b4)
        have ha4 : Below w4.heap.size w4 (w4.alloc (.cells #[.int .u32 0, .int .u32 0, .int .i64 0, .int .i64 0, .int .i64 0, .int .i64 0, .int .i64 0, .int .i64 0, .int .i64 0, .bool false] 43)) := (Below.refl _ _).alloc (Nat.le_refl _) _
        replace BX := Lib.hid (BX.out.here ha4)
        replace BY := Lib.hid (BY.out.here ha4)
        replace BZ := Lib.hid (BZ.out.here ha4)
        replace R1 := Lib.hid (R1.out.here ha4)
        replace R2 := Lib.hid (R2.out.here ha4)
        have BL : Hid (Bx (w4.alloc (.cells #[.int .u32 0, .int .u32 0, .int .i64 0, .int .i64 0, .int .i64 0, .int .i64 0, .int .i64 0, .int .i64 0, .int .i64 0, .bool false] 43)) w4.heap.size [.int .u32 0, .int .u32 0, .int .i64 0, .int .i64 0, .int .i64 0, .int .i64 0, .int .i64 0, .int .i64 0, .int .i64 0, .bool false]) := Bx.new w4 [.int .u32 0, .int .u32 0, .int .i64 0, .int .i64 0, .int .i64 0, .int .i64 0, .int .i64 0, .int .i64 0, .int .i64 0, .bool false] 43
        have B4 := Lib.hid (thence B3.out (thence b4 ha4 (Nat.le_refl _)) (Nat.le_refl _))
        clear ha4
        clear b4 B3
        obtain ⟨c0, c1, c2, c3⟩ := BX.out.four'
        have ltBX := BX.out.lt
        obtain ⟨d0, d1, d2, d3⟩ := BY.out.four'
        have ltBY := BY.out.lt
        obtain ⟨l0, l1, l2, l3, l4, l5, l6, l7, l8, l9⟩ := BZ.out.ten'
        have ltBZ := BZ.out.lt
        go_wp2_with fail
        (with_reducible refine (CL.out _).mono ?_)
        rintro e w5 ⟨a5, k5, rfl, r5, -, b5⟩
        clear c0 c1 c2 c3 d0 d1 d2 d3 l0 l1 l2 l3 l4 l5 l6 l7 l8 l9 ltBX ltBY ltBZ
        replace BX := Lib.hid (BX.out.here b5)
        replace BY := Lib.hid (BY.out.here b5)
        replace BZ := Lib.hid (BZ.out.here b5)
        replace R1 := Lib.hid (R1.out.here b5)
        replace R2 := Lib.hid (R2.out.here b5)
        replace BL := Lib.hid (BL.out.here b5)
        have B5 := Lib.hid (thence B4.out b5 (Nat.le_refl _))
        have R5 := Lib.hid r5
        clear r5
        clear b5 B4
        obtain ⟨c0, c1, c2, c3⟩ := BX.out.four'
        have ltBX := BX.out.lt
        obtain ⟨d0, d1, d2, d3⟩ := BY.out.four'
        have ltBY := BY.out.lt
        obtain ⟨l0, l1, l2, l3, l4, l5, l6, l7, l8, l9⟩ := BZ.out.ten'
        have ltBZ := BZ.out.lt
        have CS : Hid (∀ (a : Option Addr) (n : Nat) (w1 : World), Rd w1.heap.size w1 a 128 n Q → Calls Try.prog 11 #[.slice a 128 n] w1 fun e w' => e = .returned (.tuple #[.agg #[.int .u32 0, .int .u32 0, .int .u32 0, .int .i64 0], .int .i64 90]) ∧ Below w1.heap.size w1 w') := fun a n w1 hr => by have := I.read a 128 n Q w1 hr; rw [SB.rd_first (.inr QL.out) (by rw [QF.out]; decide)] at this; exact this
        go_wp2_with fail
        (with_reducible refine (CS.out _ _ _ R5.out).mono ?_)
        rintro e w6 ⟨rfl, b6⟩
        clear c0 c1 c2 c3 d0 d1 d2 d3 l0 l1 l2 l3 l4 l5 l6 l7 l8 l9 ltBX ltBY ltBZ
        replace BX := Lib.hid (BX.out.here b6)
        replace BY := Lib.hid (BY.out.here b6)
        replace BZ := Lib.hid (BZ.out.here b6)
        replace R1 := Lib.hid (R1.out.here b6)
        replace R2 := Lib.hid (R2.out.here b6)
        replace BL := Lib.hid (BL.out.here b6)
        replace R5 := Lib.hid (R5.out.here b6)
        have ha6 : Below w6.heap.size w6 (w6.alloc (.cells #[.int .u32 0, .int .u32 0, .int .u32 0, .int .i64 0] 28)) := (Below.refl _ _).alloc (Nat.le_refl _) _
        replace BX := Lib.hid (BX.out.here ha6)
        replace BY := Lib.hid (BY.out.here ha6)
        replace BZ := Lib.hid (BZ.out.here ha6)
        replace R1 := Lib.hid (R1.out.here ha6)
        replace R2 := Lib.hid (R2.out.here ha6)
        replace BL := Lib.hid (BL.out.here ha6)
        replace R5 := Lib.hid (R5.out.here ha6)
        have BM : Hid (Bx (w6.alloc (.cells #[.int .u32 0, .int .u32 0, .int .u32 0, .int .i64 0] 28)) w6.heap.size [.int .u32 0, .int .u32 0, .int .u32 0, .int .i64 0]) := Bx.new w6 [.int .u32 0, .int .u32 0, .int .u32 0, .int .i64 0] 28
        have B6 := Lib.hid (thence B5.out (thence b6 ha6 (Nat.le_refl _)) (Nat.le_refl _))
        clear ha6
        clear b6 B5
        obtain ⟨c0, c1, c2, c3⟩ := BX.out.four'
        have ltBX := BX.out.lt
        obtain ⟨d0, d1, d2, d3⟩ := BY.out.four'
        have ltBY := BY.out.lt
        obtain ⟨l0, l1, l2, l3, l4, l5, l6, l7, l8, l9⟩ := BZ.out.ten'
        have ltBZ := BZ.out.lt
        go_wp2_with fail
        go_ret
        exact ⟨rfl, B6.out⟩
      | false =>
        have CW := Lib.hid (fun w1 => I.yes id age seq tail w1 HI.out (SB.may_iff.1 hm))
        have CV := Lib.hid (fun w1 => I.yes id age seq tail w1 HI.out (SB.may_iff.1 hn))
        have CL := Lib.hid (fun w1 => J.no li ev mem chunk rows log me lost done op w1 HK.out ho)
        have KL : Hid ((Sup.block ⟨id, age, seq, tail⟩).length = 128) := SB.block_length _
        have KF : Hid ((Sup.block ⟨id, age, seq, tail⟩).getD 0 0 = 83) := by show _ = _; rw [SB.block_get _ _ (by decide)]; rfl
        generalize Sup.block ⟨id, age, seq, tail⟩ = K at *
        clear hm hn ho
        go_enter Try.func7, Try.ntmps7
        go_wp2_with fail
        generalize (((w.alloc (.cells #[.int .u32 (id : Int), .int .u32 (age : Int), .int .u32 (seq : Int), .int .i64 tail] 28)).alloc (.cells #[.int .u32 (id : Int), .int .u32 (age : Int), .int .u32 (seq : Int), .int .i64 tail] 28)).alloc (.cells #[.int .u32 (li : Int), .int .u32 (ev : Int), .int .i64 mem, .int .i64 chunk, .int .i64 rows, .int .i64 log, .int .i64 me, .int .i64 lost, .int .i64 done, .bool op] 43)) = W0 at *
        obtain ⟨c0, c1, c2, c3⟩ := BX.out.four'
        have ltBX := BX.out.lt
        obtain ⟨d0, d1, d2, d3⟩ := BY.out.four'
        have ltBY := BY.out.lt
        obtain ⟨l0, l1, l2, l3, l4, l5, l6, l7, l8, l9⟩ := BZ.out.ten'
        have ltBZ := BZ.out.lt
        (with_reducible refine (CA.out _).mono ?_)
        rintro e w1 ⟨rfl, b1⟩
        clear c0 c1 c2 c3 d0 d1 d2 d3 l0 l1 l2 l3 l4 l5 l6 l7 l8 l9 ltBX ltBY ltBZ
        replace BX := Lib.hid (BX.out.here b1)
        replace BY := Lib.hid (BY.out.here b1)
        replace BZ := Lib.hid (BZ.out.here b1)
        have B1 := Lib.hid (thence B0.out b1 (Nat.le_refl _))
        clear b1 B0
        obtain ⟨c0, c1, c2, c3⟩ := BX.out.four'
        have ltBX := BX.out.lt
        obtain ⟨d0, d1, d2, d3⟩ := BY.out.four'
        have ltBY := BY.out.lt
        obtain ⟨l0, l1, l2, l3, l4, l5, l6, l7, l8, l9⟩ := BZ.out.ten'
        have ltBZ := BZ.out.lt
        go_wp2_with fail
        (with_reducible refine (CW.out _).mono ?_)
        rintro e w2 ⟨a1, k1, rfl, r1, -, b2⟩
        clear c0 c1 c2 c3 d0 d1 d2 d3 l0 l1 l2 l3 l4 l5 l6 l7 l8 l9 ltBX ltBY ltBZ
        replace BX := Lib.hid (BX.out.here b2)
        replace BY := Lib.hid (BY.out.here b2)
        replace BZ := Lib.hid (BZ.out.here b2)
        have B2 := Lib.hid (thence B1.out b2 (Nat.le_refl _))
        have R1 := Lib.hid r1
        clear r1
        clear b2 B1
        obtain ⟨c0, c1, c2, c3⟩ := BX.out.four'
        have ltBX := BX.out.lt
        obtain ⟨d0, d1, d2, d3⟩ := BY.out.four'
        have ltBY := BY.out.lt
        obtain ⟨l0, l1, l2, l3, l4, l5, l6, l7, l8, l9⟩ := BZ.out.ten'
        have ltBZ := BZ.out.lt
        go_wp2_with fail
        (with_reducible refine (CV.out _).mono ?_)
        rintro e w3 ⟨a2, k2, rfl, r2, -, b3⟩
        clear c0 c1 c2 c3 d0 d1 d2 d3 l0 l1 l2 l3 l4 l5 l6 l7 l8 l9 ltBX ltBY ltBZ
        replace BX := Lib.hid (BX.out.here b3)
        replace BY := Lib.hid (BY.out.here b3)
        replace BZ := Lib.hid (BZ.out.here b3)
        replace R1 := Lib.hid (R1.out.here b3)
        have B3 := Lib.hid (thence B2.out b3 (Nat.le_refl _))
        have R2 := Lib.hid r2
        clear r2
        clear b3 B2
        obtain ⟨c0, c1, c2, c3⟩ := BX.out.four'
        have ltBX := BX.out.lt
        obtain ⟨d0, d1, d2, d3⟩ := BY.out.four'
        have ltBY := BY.out.lt
        obtain ⟨l0, l1, l2, l3, l4, l5, l6, l7, l8, l9⟩ := BZ.out.ten'
        have ltBZ := BZ.out.lt
        have T1 := fun nq => text_is (w3.drewN nq) _ _ _ _ (R1.out.drewN nq)
        have T2 := fun nq => text_is (w3.drewN nq) _ _ _ _ (R2.out.drewN nq)
        go_wp2_with fail
        go_quiet (fail)
        rename_i nq
        clear c0 c1 c2 c3 d0 d1 d2 d3 l0 l1 l2 l3 l4 l5 l6 l7 l8 l9 ltBX ltBY ltBZ
        replace BX := Lib.hid (BX.out.here (below_drewN (Below.refl _ _) nq))
        replace BY := Lib.hid (BY.out.here (below_drewN (Below.refl _ _) nq))
        replace BZ := Lib.hid (BZ.out.here (below_drewN (Below.refl _ _) nq))
        replace R1 := Lib.hid (R1.out.here (below_drewN (Below.refl _ _) nq))
        replace R2 := Lib.hid (R2.out.here (below_drewN (Below.refl _ _) nq))
        replace B3 := Lib.hid (below_drewN B3.out nq)
        clear T1 T2
        generalize w3.drewN nq = w3' at *
        obtain ⟨c0, c1, c2, c3⟩ := BX.out.four'
        have ltBX := BX.out.lt
        obtain ⟨d0, d1, d2, d3⟩ := BY.out.four'
        have ltBY := BY.out.lt
        obtain ⟨l0, l1, l2, l3, l4, l5, l6, l7, l8, l9⟩ := BZ.out.ten'
        have ltBZ := BZ.out.lt
        have CR : Hid (∀ (a : Option Addr) (n : Nat) (w1 : World), Rd w1.heap.size w1 a 128 n K → Calls Try.prog 17 #[.slice a 128 n] w1 fun e w' => e = .returned (.tuple #[.agg #[.int .u32 0, .int .u32 0, .int .i64 0, .int .i64 0, .int .i64 0, .int .i64 0, .int .i64 0, .int .i64 0, .int .i64 0, .bool false], .int .i64 90]) ∧ Below w1.heap.size w1 w') := fun a n w1 hr => J.read a 128 n K w1 hr (by rw [LB.rd_first (.inr KL.out) (by rw [KF.out]; decide)])
        go_wp2_with fail
        (with_reducible refine (CR.out _ _ _ R1.out).mono ?_)
        rintro e w4 ⟨rfl, b4⟩
        clear c0 c1 c2 c3 d0 d1 d2 d3 l0 l1 l2 l3 l4 l5 l6 l7 l8 l9 ltBX ltBY ltBZ
        replace BX := Lib.hid (BX.out.here b4)
        replace BY := Lib.hid (BY.out.here b4)
        replace BZ := Lib.hid (BZ.out.here b4)
        replace R1 := Lib.hid (R1.out.here b4)
        replace R2 := Lib.hid (R2.out.here b4)
        have ha4 : Below w4.heap.size w4 (w4.alloc (.cells #[.int .u32 0, .int .u32 0, .int .i64 0, .int .i64 0, .int .i64 0, .int .i64 0, .int .i64 0, .int .i64 0, .int .i64 0, .bool false] 43)) := (Below.refl _ _).alloc (Nat.le_refl _) _
        replace BX := Lib.hid (BX.out.here ha4)
        replace BY := Lib.hid (BY.out.here ha4)
        replace BZ := Lib.hid (BZ.out.here ha4)
        replace R1 := Lib.hid (R1.out.here ha4)
        replace R2 := Lib.hid (R2.out.here ha4)
        have BL : Hid (Bx (w4.alloc (.cells #[.int .u32 0, .int .u32 0, .int .i64 0, .int .i64 0, .int .i64 0, .int .i64 0, .int .i64 0, .int .i64 0, .int .i64 0, .bool false] 43)) w4.heap.size [.int .u32 0, .int .u32 0, .int .i64 0, .int .i64 0, .int .i64 0, .int .i64 0, .int .i64 0, .int .i64 0, .int .i64 0, .bool false]) := Bx.new w4 [.int .u32 0, .int .u32 0, .int .i64 0, .int .i64 0, .int .i64 0, .int .i64 0, .int .i64 0, .int .i64 0, .int .i64 0, .bool false] 43
        have B4 := Lib.hid (thence B3.out (thence b4 ha4 (Nat.le_refl _)) (Nat.le_refl _))
        clear ha4
        clear b4 B3
        obtain ⟨c0, c1, c2, c3⟩ := BX.out.four'
        have ltBX := BX.out.lt
        obtain ⟨d0, d1, d2, d3⟩ := BY.out.four'
        have ltBY := BY.out.lt
        obtain ⟨l0, l1, l2, l3, l4, l5, l6, l7, l8, l9⟩ := BZ.out.ten'
        have ltBZ := BZ.out.lt
        go_wp2_with fail
        (with_reducible refine (CL.out _).mono ?_)
        rintro e w5 ⟨a5, k5, rfl, -, b5⟩
        clear c0 c1 c2 c3 d0 d1 d2 d3 l0 l1 l2 l3 l4 l5 l6 l7 l8 l9 ltBX ltBY ltBZ
        replace BX := Lib.hid (BX.out.here b5)
        replace BY := Lib.hid (BY.out.here b5)
        replace BZ := Lib.hid (BZ.out.here b5)
        replace R1 := Lib.hid (R1.out.here b5)
        replace R2 := Lib.hid (R2.out.here b5)
        replace BL := Lib.hid (BL.out.here b5)
        have B5 := Lib.hid (thence B4.out b5 (Nat.le_refl _))
        clear b5 B4
        obtain ⟨c0, c1, c2, c3⟩ := BX.out.four'
        have ltBX := BX.out.lt
        obtain ⟨d0, d1, d2, d3⟩ := BY.out.four'
        have ltBY := BY.out.lt
        obtain ⟨l0, l1, l2, l3, l4, l5, l6, l7, l8, l9⟩ := BZ.out.ten'
        have ltBZ := BZ.out.lt
        go_wp2_with fail
        go_ret
        exact ⟨rfl, B5.out⟩
    | false =>
      cases ho : LB.Lab.may ⟨li, ev, mem, chunk, rows, log, me, lost, done, op⟩ with
      | true =>
        have CW := Lib.hid (fun w1 => I.yes id age seq tail w1 HI.out (SB.may_iff.1 hm))
        have CV := Lib.hid (fun w1 => I.no id' age' seq' tail' w1 HJ.out hn)
        have CL := Lib.hid (fun w1 => J.yes li ev mem chunk rows log me lost done op w1 HK.out (LB.may_iff.1 ho))
        have KL : Hid ((Sup.block ⟨id, age, seq, tail⟩).length = 128) := SB.block_length _
        have KF : Hid ((Sup.block ⟨id, age, seq, tail⟩).getD 0 0 = 83) := by show _ = _; rw [SB.block_get _ _ (by decide)]; rfl
        have QL : Hid ((LB.Lab.block ⟨li, ev, mem, chunk, rows, log, me, lost, done, op⟩).length = 128) := LB.block_length _
        have QF : Hid ((LB.Lab.block ⟨li, ev, mem, chunk, rows, log, me, lost, done, op⟩).getD 0 0 = 76) := by show _ = _; rw [LB.block_get _ _ (by decide)]; rfl
        generalize LB.Lab.block ⟨li, ev, mem, chunk, rows, log, me, lost, done, op⟩ = Q at *
        generalize Sup.block ⟨id, age, seq, tail⟩ = K at *
        clear hm hn ho
        go_enter Try.func7, Try.ntmps7
        go_wp2_with fail
        generalize (((w.alloc (.cells #[.int .u32 (id : Int), .int .u32 (age : Int), .int .u32 (seq : Int), .int .i64 tail] 28)).alloc (.cells #[.int .u32 (id' : Int), .int .u32 (age' : Int), .int .u32 (seq' : Int), .int .i64 tail'] 28)).alloc (.cells #[.int .u32 (li : Int), .int .u32 (ev : Int), .int .i64 mem, .int .i64 chunk, .int .i64 rows, .int .i64 log, .int .i64 me, .int .i64 lost, .int .i64 done, .bool op] 43)) = W0 at *
        obtain ⟨c0, c1, c2, c3⟩ := BX.out.four'
        have ltBX := BX.out.lt
        obtain ⟨d0, d1, d2, d3⟩ := BY.out.four'
        have ltBY := BY.out.lt
        obtain ⟨l0, l1, l2, l3, l4, l5, l6, l7, l8, l9⟩ := BZ.out.ten'
        have ltBZ := BZ.out.lt
        (with_reducible refine (CA.out _).mono ?_)
        rintro e w1 ⟨rfl, b1⟩
        clear c0 c1 c2 c3 d0 d1 d2 d3 l0 l1 l2 l3 l4 l5 l6 l7 l8 l9 ltBX ltBY ltBZ
        replace BX := Lib.hid (BX.out.here b1)
        replace BY := Lib.hid (BY.out.here b1)
        replace BZ := Lib.hid (BZ.out.here b1)
        have B1 := Lib.hid (thence B0.out b1 (Nat.le_refl _))
        clear b1 B0
        obtain ⟨c0, c1, c2, c3⟩ := BX.out.four'
        have ltBX := BX.out.lt
        obtain ⟨d0, d1, d2, d3⟩ := BY.out.four'
        have ltBY := BY.out.lt
        obtain ⟨l0, l1, l2, l3, l4, l5, l6, l7, l8, l9⟩ := BZ.out.ten'
        have ltBZ := BZ.out.lt
        go_wp2_with fail
        (with_reducible refine (CW.out _).mono ?_)
        rintro e w2 ⟨a1, k1, rfl, r1, -, b2⟩
        clear c0 c1 c2 c3 d0 d1 d2 d3 l0 l1 l2 l3 l4 l5 l6 l7 l8 l9 ltBX ltBY ltBZ
        replace BX := Lib.hid (BX.out.here b2)
        replace BY := Lib.hid (BY.out.here b2)
        replace BZ := Lib.hid (BZ.out.here b2)
        have B2 := Lib.hid (thence B1.out b2 (Nat.le_refl _))
        have R1 := Lib.hid r1
        clear r1
        clear b2 B1
        obtain ⟨c0, c1, c2, c3⟩ := BX.out.four'
        have ltBX := BX.out.lt
        obtain ⟨d0, d1, d2, d3⟩ := BY.out.four'
        have ltBY := BY.out.lt
        obtain ⟨l0, l1, l2, l3, l4, l5, l6, l7, l8, l9⟩ := BZ.out.ten'
        have ltBZ := BZ.out.lt
        go_wp2_with fail
        (with_reducible refine (CV.out _).mono ?_)
        rintro e w3 ⟨a2, k2, rfl, r2, b3⟩
        clear c0 c1 c2 c3 d0 d1 d2 d3 l0 l1 l2 l3 l4 l5 l6 l7 l8 l9 ltBX ltBY ltBZ
        replace BX := Lib.hid (BX.out.here b3)
        replace BY := Lib.hid (BY.out.here b3)
        replace BZ := Lib.hid (BZ.out.here b3)
        replace R1 := Lib.hid (R1.out.here b3)
        have B3 := Lib.hid (thence B2.out b3 (Nat.le_refl _))
        have R2 := Lib.hid r2
        clear r2
        clear b3 B2
        obtain ⟨c0, c1, c2, c3⟩ := BX.out.four'
        have ltBX := BX.out.lt
        obtain ⟨d0, d1, d2, d3⟩ := BY.out.four'
        have ltBY := BY.out.lt
        obtain ⟨l0, l1, l2, l3, l4, l5, l6, l7, l8, l9⟩ := BZ.out.ten'
        have ltBZ := BZ.out.lt
        have T1 := fun nq => text_is (w3.drewN nq) _ _ _ _ (R1.out.drewN nq)
        have T2 := fun nq => text_is (w3.drewN nq) _ _ _ _ (R2.out.drewN nq)
        go_wp2_with fail
        go_quiet (fail)
        rename_i nq
        clear c0 c1 c2 c3 d0 d1 d2 d3 l0 l1 l2 l3 l4 l5 l6 l7 l8 l9 ltBX ltBY ltBZ
        replace BX := Lib.hid (BX.out.here (below_drewN (Below.refl _ _) nq))
        replace BY := Lib.hid (BY.out.here (below_drewN (Below.refl _ _) nq))
        replace BZ := Lib.hid (BZ.out.here (below_drewN (Below.refl _ _) nq))
        replace R1 := Lib.hid (R1.out.here (below_drewN (Below.refl _ _) nq))
        replace R2 := Lib.hid (R2.out.here (below_drewN (Below.refl _ _) nq))
        replace B3 := Lib.hid (below_drewN B3.out nq)
        clear T1 T2
        generalize w3.drewN nq = w3' at *
        obtain ⟨c0, c1, c2, c3⟩ := BX.out.four'
        have ltBX := BX.out.lt
        obtain ⟨d0, d1, d2, d3⟩ := BY.out.four'
        have ltBY := BY.out.lt
        obtain ⟨l0, l1, l2, l3, l4, l5, l6, l7, l8, l9⟩ := BZ.out.ten'
        have ltBZ := BZ.out.lt
        have CR : Hid (∀ (a : Option Addr) (n : Nat) (w1 : World), Rd w1.heap.size w1 a 128 n K → Calls Try.prog 17 #[.slice a 128 n] w1 fun e w' => e = .returned (.tuple #[.agg #[.int .u32 0, .int .u32 0, .int .i64 0, .int .i64 0, .int .i64 0, .int .i64 0, .int .i64 0, .int .i64 0, .int .i64 0, .bool false], .int .i64 90]) ∧ Below w1.heap.size w1 w') := fun a n w1 hr => J.read a 128 n K w1 hr (by rw [LB.rd_first (.inr KL.out) (by rw [KF.out]; decide)])
        go_wp2_with fail
        (with_reducible refine (CR.out _ _ _ R1.out).mono ?_)
        rintro e w4 ⟨rfl, b4⟩
        clear c0 c1 c2 c3 d0 d1 d2 d3 l0 l1 l2 l3 l4 l5 l6 l7 l8 l9 ltBX ltBY ltBZ
        replace BX := Lib.hid (BX.out.here b4)
        replace BY := Lib.hid (BY.out.here b4)
        replace BZ := Lib.hid (BZ.out.here b4)
        replace R1 := Lib.hid (R1.out.here b4)
        replace R2 := Lib.hid (R2.out.here b4)
        have ha4 : Below w4.heap.size w4 (w4.alloc (.cells #[.int .u32 0, .int .u32 0, .int .i64 0, .int .i64 0, .int .i64 0, .int .i64 0, .int .i64 0, .int .i64 0, .int .i64 0, .bool false] 43)) := (Below.refl _ _).alloc (Nat.le_refl _) _
        replace BX := Lib.hid (BX.out.here ha4)
        replace BY := Lib.hid (BY.out.here ha4)
        replace BZ := Lib.hid (BZ.out.here ha4)
        replace R1 := Lib.hid (R1.out.here ha4)
        replace R2 := Lib.hid (R2.out.here ha4)
        have BL : Hid (Bx (w4.alloc (.cells #[.int .u32 0, .int .u32 0, .int .i64 0, .int .i64 0, .int .i64 0, .int .i64 0, .int .i64 0, .int .i64 0, .int .i64 0, .bool false] 43)) w4.heap.size [.int .u32 0, .int .u32 0, .int .i64 0, .int .i64 0, .int .i64 0, .int .i64 0, .int .i64 0, .int .i64 0, .int .i64 0, .bool false]) := Bx.new w4 [.int .u32 0, .int .u32 0, .int .i64 0, .int .i64 0, .int .i64 0, .int .i64 0, .int .i64 0, .int .i64 0, .int .i64 0, .bool false] 43
        have B4 := Lib.hid (thence B3.out (thence b4 ha4 (Nat.le_refl _)) (Nat.le_refl _))
        clear ha4
        clear b4 B3
        obtain ⟨c0, c1, c2, c3⟩ := BX.out.four'
        have ltBX := BX.out.lt
        obtain ⟨d0, d1, d2, d3⟩ := BY.out.four'
        have ltBY := BY.out.lt
        obtain ⟨l0, l1, l2, l3, l4, l5, l6, l7, l8, l9⟩ := BZ.out.ten'
        have ltBZ := BZ.out.lt
        go_wp2_with fail
        (with_reducible refine (CL.out _).mono ?_)
        rintro e w5 ⟨a5, k5, rfl, r5, -, b5⟩
        clear c0 c1 c2 c3 d0 d1 d2 d3 l0 l1 l2 l3 l4 l5 l6 l7 l8 l9 ltBX ltBY ltBZ
        replace BX := Lib.hid (BX.out.here b5)
        replace BY := Lib.hid (BY.out.here b5)
        replace BZ := Lib.hid (BZ.out.here b5)
        replace R1 := Lib.hid (R1.out.here b5)
        replace R2 := Lib.hid (R2.out.here b5)
        replace BL := Lib.hid (BL.out.here b5)
        have B5 := Lib.hid (thence B4.out b5 (Nat.le_refl _))
        have R5 := Lib.hid r5
        clear r5
        clear b5 B4
        obtain ⟨c0, c1, c2, c3⟩ := BX.out.four'
        have ltBX := BX.out.lt
        obtain ⟨d0, d1, d2, d3⟩ := BY.out.four'
        have ltBY := BY.out.lt
        obtain ⟨l0, l1, l2, l3, l4, l5, l6, l7, l8, l9⟩ := BZ.out.ten'
        have ltBZ := BZ.out.lt
        have CS : Hid (∀ (a : Option Addr) (n : Nat) (w1 : World), Rd w1.heap.size w1 a 128 n Q → Calls Try.prog 11 #[.slice a 128 n] w1 fun e w' => e = .returned (.tuple #[.agg #[.int .u32 0, .int .u32 0, .int .u32 0, .int .i64 0], .int .i64 90]) ∧ Below w1.heap.size w1 w') := fun a n w1 hr => by have := I.read a 128 n Q w1 hr; rw [SB.rd_first (.inr QL.out) (by rw [QF.out]; decide)] at this; exact this
        go_wp2_with fail
        (with_reducible refine (CS.out _ _ _ R5.out).mono ?_)
        rintro e w6 ⟨rfl, b6⟩
        clear c0 c1 c2 c3 d0 d1 d2 d3 l0 l1 l2 l3 l4 l5 l6 l7 l8 l9 ltBX ltBY ltBZ
        replace BX := Lib.hid (BX.out.here b6)
        replace BY := Lib.hid (BY.out.here b6)
        replace BZ := Lib.hid (BZ.out.here b6)
        replace R1 := Lib.hid (R1.out.here b6)
        replace R2 := Lib.hid (R2.out.here b6)
        replace BL := Lib.hid (BL.out.here b6)
        replace R5 := Lib.hid (R5.out.here b6)
        have ha6 : Below w6.heap.size w6 (w6.alloc (.cells #[.int .u32 0, .int .u32 0, .int .u32 0, .int .i64 0] 28)) := (Below.refl _ _).alloc (Nat.le_refl _) _
        replace BX := Lib.hid (BX.out.here ha6)
        replace BY := Lib.hid (BY.out.here ha6)
        replace BZ := Lib.hid (BZ.out.here ha6)
        replace R1 := Lib.hid (R1.out.here ha6)
        replace R2 := Lib.hid (R2.out.here ha6)
        replace BL := Lib.hid (BL.out.here ha6)
        replace R5 := Lib.hid (R5.out.here ha6)
        have BM : Hid (Bx (w6.alloc (.cells #[.int .u32 0, .int .u32 0, .int .u32 0, .int .i64 0] 28)) w6.heap.size [.int .u32 0, .int .u32 0, .int .u32 0, .int .i64 0]) := Bx.new w6 [.int .u32 0, .int .u32 0, .int .u32 0, .int .i64 0] 28
        have B6 := Lib.hid (thence B5.out (thence b6 ha6 (Nat.le_refl _)) (Nat.le_refl _))
        clear ha6
        clear b6 B5
        obtain ⟨c0, c1, c2, c3⟩ := BX.out.four'
        have ltBX := BX.out.lt
        obtain ⟨d0, d1, d2, d3⟩ := BY.out.four'
        have ltBY := BY.out.lt
        obtain ⟨l0, l1, l2, l3, l4, l5, l6, l7, l8, l9⟩ := BZ.out.ten'
        have ltBZ := BZ.out.lt
        go_wp2_with fail
        go_ret
        exact ⟨rfl, B6.out⟩
      | false =>
        have CW := Lib.hid (fun w1 => I.yes id age seq tail w1 HI.out (SB.may_iff.1 hm))
        have CV := Lib.hid (fun w1 => I.no id' age' seq' tail' w1 HJ.out hn)
        have CL := Lib.hid (fun w1 => J.no li ev mem chunk rows log me lost done op w1 HK.out ho)
        have KL : Hid ((Sup.block ⟨id, age, seq, tail⟩).length = 128) := SB.block_length _
        have KF : Hid ((Sup.block ⟨id, age, seq, tail⟩).getD 0 0 = 83) := by show _ = _; rw [SB.block_get _ _ (by decide)]; rfl
        generalize Sup.block ⟨id, age, seq, tail⟩ = K at *
        clear hm hn ho
        go_enter Try.func7, Try.ntmps7
        go_wp2_with fail
        generalize (((w.alloc (.cells #[.int .u32 (id : Int), .int .u32 (age : Int), .int .u32 (seq : Int), .int .i64 tail] 28)).alloc (.cells #[.int .u32 (id' : Int), .int .u32 (age' : Int), .int .u32 (seq' : Int), .int .i64 tail'] 28)).alloc (.cells #[.int .u32 (li : Int), .int .u32 (ev : Int), .int .i64 mem, .int .i64 chunk, .int .i64 rows, .int .i64 log, .int .i64 me, .int .i64 lost, .int .i64 done, .bool op] 43)) = W0 at *
        obtain ⟨c0, c1, c2, c3⟩ := BX.out.four'
        have ltBX := BX.out.lt
        obtain ⟨d0, d1, d2, d3⟩ := BY.out.four'
        have ltBY := BY.out.lt
        obtain ⟨l0, l1, l2, l3, l4, l5, l6, l7, l8, l9⟩ := BZ.out.ten'
        have ltBZ := BZ.out.lt
        (with_reducible refine (CA.out _).mono ?_)
        rintro e w1 ⟨rfl, b1⟩
        clear c0 c1 c2 c3 d0 d1 d2 d3 l0 l1 l2 l3 l4 l5 l6 l7 l8 l9 ltBX ltBY ltBZ
        replace BX := Lib.hid (BX.out.here b1)
        replace BY := Lib.hid (BY.out.here b1)
        replace BZ := Lib.hid (BZ.out.here b1)
        have B1 := Lib.hid (thence B0.out b1 (Nat.le_refl _))
        clear b1 B0
        obtain ⟨c0, c1, c2, c3⟩ := BX.out.four'
        have ltBX := BX.out.lt
        obtain ⟨d0, d1, d2, d3⟩ := BY.out.four'
        have ltBY := BY.out.lt
        obtain ⟨l0, l1, l2, l3, l4, l5, l6, l7, l8, l9⟩ := BZ.out.ten'
        have ltBZ := BZ.out.lt
        go_wp2_with fail
        (with_reducible refine (CW.out _).mono ?_)
        rintro e w2 ⟨a1, k1, rfl, r1, -, b2⟩
        clear c0 c1 c2 c3 d0 d1 d2 d3 l0 l1 l2 l3 l4 l5 l6 l7 l8 l9 ltBX ltBY ltBZ
        replace BX := Lib.hid (BX.out.here b2)
        replace BY := Lib.hid (BY.out.here b2)
        replace BZ := Lib.hid (BZ.out.here b2)
        have B2 := Lib.hid (thence B1.out b2 (Nat.le_refl _))
        have R1 := Lib.hid r1
        clear r1
        clear b2 B1
        obtain ⟨c0, c1, c2, c3⟩ := BX.out.four'
        have ltBX := BX.out.lt
        obtain ⟨d0, d1, d2, d3⟩ := BY.out.four'
        have ltBY := BY.out.lt
        obtain ⟨l0, l1, l2, l3, l4, l5, l6, l7, l8, l9⟩ := BZ.out.ten'
        have ltBZ := BZ.out.lt
        go_wp2_with fail
        (with_reducible refine (CV.out _).mono ?_)
        rintro e w3 ⟨a2, k2, rfl, r2, b3⟩
        clear c0 c1 c2 c3 d0 d1 d2 d3 l0 l1 l2 l3 l4 l5 l6 l7 l8 l9 ltBX ltBY ltBZ
        replace BX := Lib.hid (BX.out.here b3)
        replace BY := Lib.hid (BY.out.here b3)
        replace BZ := Lib.hid (BZ.out.here b3)
        replace R1 := Lib.hid (R1.out.here b3)
        have B3 := Lib.hid (thence B2.out b3 (Nat.le_refl _))
        have R2 := Lib.hid r2
        clear r2
        clear b3 B2
        obtain ⟨c0, c1, c2, c3⟩ := BX.out.four'
        have ltBX := BX.out.lt
        obtain ⟨d0, d1, d2, d3⟩ := BY.out.four'
        have ltBY := BY.out.lt
        obtain ⟨l0, l1, l2, l3, l4, l5, l6, l7, l8, l9⟩ := BZ.out.ten'
        have ltBZ := BZ.out.lt
        have T1 := fun nq => text_is (w3.drewN nq) _ _ _ _ (R1.out.drewN nq)
        have T2 := fun nq => text_is (w3.drewN nq) _ _ _ _ (R2.out.drewN nq)
        go_wp2_with fail
        go_quiet (fail)
        rename_i nq
        clear c0 c1 c2 c3 d0 d1 d2 d3 l0 l1 l2 l3 l4 l5 l6 l7 l8 l9 ltBX ltBY ltBZ
        replace BX := Lib.hid (BX.out.here (below_drewN (Below.refl _ _) nq))
        replace BY := Lib.hid (BY.out.here (below_drewN (Below.refl _ _) nq))
        replace BZ := Lib.hid (BZ.out.here (below_drewN (Below.refl _ _) nq))
        replace R1 := Lib.hid (R1.out.here (below_drewN (Below.refl _ _) nq))
        replace R2 := Lib.hid (R2.out.here (below_drewN (Below.refl _ _) nq))
        replace B3 := Lib.hid (below_drewN B3.out nq)
        clear T1 T2
        generalize w3.drewN nq = w3' at *
        obtain ⟨c0, c1, c2, c3⟩ := BX.out.four'
        have ltBX := BX.out.lt
        obtain ⟨d0, d1, d2, d3⟩ := BY.out.four'
        have ltBY := BY.out.lt
        obtain ⟨l0, l1, l2, l3, l4, l5, l6, l7, l8, l9⟩ := BZ.out.ten'
        have ltBZ := BZ.out.lt
        have CR : Hid (∀ (a : Option Addr) (n : Nat) (w1 : World), Rd w1.heap.size w1 a 128 n K → Calls Try.prog 17 #[.slice a 128 n] w1 fun e w' => e = .returned (.tuple #[.agg #[.int .u32 0, .int .u32 0, .int .i64 0, .int .i64 0, .int .i64 0, .int .i64 0, .int .i64 0, .int .i64 0, .int .i64 0, .bool false], .int .i64 90]) ∧ Below w1.heap.size w1 w') := fun a n w1 hr => J.read a 128 n K w1 hr (by rw [LB.rd_first (.inr KL.out) (by rw [KF.out]; decide)])
        go_wp2_with fail
        (with_reducible refine (CR.out _ _ _ R1.out).mono ?_)
        rintro e w4 ⟨rfl, b4⟩
        clear c0 c1 c2 c3 d0 d1 d2 d3 l0 l1 l2 l3 l4 l5 l6 l7 l8 l9 ltBX ltBY ltBZ
        replace BX := Lib.hid (BX.out.here b4)
        replace BY := Lib.hid (BY.out.here b4)
        replace BZ := Lib.hid (BZ.out.here b4)
        replace R1 := Lib.hid (R1.out.here b4)
        replace R2 := Lib.hid (R2.out.here b4)
        have ha4 : Below w4.heap.size w4 (w4.alloc (.cells #[.int .u32 0, .int .u32 0, .int .i64 0, .int .i64 0, .int .i64 0, .int .i64 0, .int .i64 0, .int .i64 0, .int .i64 0, .bool false] 43)) := (Below.refl _ _).alloc (Nat.le_refl _) _
        replace BX := Lib.hid (BX.out.here ha4)
        replace BY := Lib.hid (BY.out.here ha4)
        replace BZ := Lib.hid (BZ.out.here ha4)
        replace R1 := Lib.hid (R1.out.here ha4)
        replace R2 := Lib.hid (R2.out.here ha4)
        have BL : Hid (Bx (w4.alloc (.cells #[.int .u32 0, .int .u32 0, .int .i64 0, .int .i64 0, .int .i64 0, .int .i64 0, .int .i64 0, .int .i64 0, .int .i64 0, .bool false] 43)) w4.heap.size [.int .u32 0, .int .u32 0, .int .i64 0, .int .i64 0, .int .i64 0, .int .i64 0, .int .i64 0, .int .i64 0, .int .i64 0, .bool false]) := Bx.new w4 [.int .u32 0, .int .u32 0, .int .i64 0, .int .i64 0, .int .i64 0, .int .i64 0, .int .i64 0, .int .i64 0, .int .i64 0, .bool false] 43
        have B4 := Lib.hid (thence B3.out (thence b4 ha4 (Nat.le_refl _)) (Nat.le_refl _))
        clear ha4
        clear b4 B3
        obtain ⟨c0, c1, c2, c3⟩ := BX.out.four'
        have ltBX := BX.out.lt
        obtain ⟨d0, d1, d2, d3⟩ := BY.out.four'
        have ltBY := BY.out.lt
        obtain ⟨l0, l1, l2, l3, l4, l5, l6, l7, l8, l9⟩ := BZ.out.ten'
        have ltBZ := BZ.out.lt
        go_wp2_with fail
        (with_reducible refine (CL.out _).mono ?_)
        rintro e w5 ⟨a5, k5, rfl, -, b5⟩
        clear c0 c1 c2 c3 d0 d1 d2 d3 l0 l1 l2 l3 l4 l5 l6 l7 l8 l9 ltBX ltBY ltBZ
        replace BX := Lib.hid (BX.out.here b5)
        replace BY := Lib.hid (BY.out.here b5)
        replace BZ := Lib.hid (BZ.out.here b5)
        replace R1 := Lib.hid (R1.out.here b5)
        replace R2 := Lib.hid (R2.out.here b5)
        replace BL := Lib.hid (BL.out.here b5)
        have B5 := Lib.hid (thence B4.out b5 (Nat.le_refl _))
        clear b5 B4
        obtain ⟨c0, c1, c2, c3⟩ := BX.out.four'
        have ltBX := BX.out.lt
        obtain ⟨d0, d1, d2, d3⟩ := BY.out.four'
        have ltBY := BY.out.lt
        obtain ⟨l0, l1, l2, l3, l4, l5, l6, l7, l8, l9⟩ := BZ.out.ten'
        have ltBZ := BZ.out.lt
        go_wp2_with fail
        go_ret
        exact ⟨rfl, B5.out⟩
  | false =>
    cases hn : Sup.may ⟨id', age', seq', tail'⟩ with
    | true =>
      cases ho : LB.Lab.may ⟨li, ev, mem, chunk, rows, log, me, lost, done, op⟩ with
      | true =>
        have CW := Lib.hid (fun w1 => I.no id age seq tail w1 HI.out hm)
        have CV := Lib.hid (fun w1 => I.yes id' age' seq' tail' w1 HJ.out (SB.may_iff.1 hn))
        have CL := Lib.hid (fun w1 => J.yes li ev mem chunk rows log me lost done op w1 HK.out (LB.may_iff.1 ho))
        have QL : Hid ((LB.Lab.block ⟨li, ev, mem, chunk, rows, log, me, lost, done, op⟩).length = 128) := LB.block_length _
        have QF : Hid ((LB.Lab.block ⟨li, ev, mem, chunk, rows, log, me, lost, done, op⟩).getD 0 0 = 76) := by show _ = _; rw [LB.block_get _ _ (by decide)]; rfl
        generalize LB.Lab.block ⟨li, ev, mem, chunk, rows, log, me, lost, done, op⟩ = Q at *
        generalize Sup.block ⟨id', age', seq', tail'⟩ = K' at *
        clear hm hn ho
        go_enter Try.func7, Try.ntmps7
        go_wp2_with fail
        generalize (((w.alloc (.cells #[.int .u32 (id : Int), .int .u32 (age : Int), .int .u32 (seq : Int), .int .i64 tail] 28)).alloc (.cells #[.int .u32 (id' : Int), .int .u32 (age' : Int), .int .u32 (seq' : Int), .int .i64 tail'] 28)).alloc (.cells #[.int .u32 (li : Int), .int .u32 (ev : Int), .int .i64 mem, .int .i64 chunk, .int .i64 rows, .int .i64 log, .int .i64 me, .int .i64 lost, .int .i64 done, .bool op] 43)) = W0 at *
        obtain ⟨c0, c1, c2, c3⟩ := BX.out.four'
        have ltBX := BX.out.lt
        obtain ⟨d0, d1, d2, d3⟩ := BY.out.four'
        have ltBY := BY.out.lt
        obtain ⟨l0, l1, l2, l3, l4, l5, l6, l7, l8, l9⟩ := BZ.out.ten'
        have ltBZ := BZ.out.lt
        (with_reducible refine (CA.out _).mono ?_)
        rintro e w1 ⟨rfl, b1⟩
        clear c0 c1 c2 c3 d0 d1 d2 d3 l0 l1 l2 l3 l4 l5 l6 l7 l8 l9 ltBX ltBY ltBZ
        replace BX := Lib.hid (BX.out.here b1)
        replace BY := Lib.hid (BY.out.here b1)
        replace BZ := Lib.hid (BZ.out.here b1)
        have B1 := Lib.hid (thence B0.out b1 (Nat.le_refl _))
        clear b1 B0
        obtain ⟨c0, c1, c2, c3⟩ := BX.out.four'
        have ltBX := BX.out.lt
        obtain ⟨d0, d1, d2, d3⟩ := BY.out.four'
        have ltBY := BY.out.lt
        obtain ⟨l0, l1, l2, l3, l4, l5, l6, l7, l8, l9⟩ := BZ.out.ten'
        have ltBZ := BZ.out.lt
        go_wp2_with fail
        (with_reducible refine (CW.out _).mono ?_)
        rintro e w2 ⟨a1, k1, rfl, r1, b2⟩
        clear c0 c1 c2 c3 d0 d1 d2 d3 l0 l1 l2 l3 l4 l5 l6 l7 l8 l9 ltBX ltBY ltBZ
        replace BX := Lib.hid (BX.out.here b2)
        replace BY := Lib.hid (BY.out.here b2)
        replace BZ := Lib.hid (BZ.out.here b2)
        have B2 := Lib.hid (thence B1.out b2 (Nat.le_refl _))
        have R1 := Lib.hid r1
        clear r1
        clear b2 B1
        obtain ⟨c0, c1, c2, c3⟩ := BX.out.four'
        have ltBX := BX.out.lt
        obtain ⟨d0, d1, d2, d3⟩ := BY.out.four'
        have ltBY := BY.out.lt
        obtain ⟨l0, l1, l2, l3, l4, l5, l6, l7, l8, l9⟩ := BZ.out.ten'
        have ltBZ := BZ.out.lt
        go_wp2_with fail
        (with_reducible refine (CV.out _).mono ?_)
        rintro e w3 ⟨a2, k2, rfl, r2, -, b3⟩
        clear c0 c1 c2 c3 d0 d1 d2 d3 l0 l1 l2 l3 l4 l5 l6 l7 l8 l9 ltBX ltBY ltBZ
        replace BX := Lib.hid (BX.out.here b3)
        replace BY := Lib.hid (BY.out.here b3)
        replace BZ := Lib.hid (BZ.out.here b3)
        replace R1 := Lib.hid (R1.out.here b3)
        have B3 := Lib.hid (thence B2.out b3 (Nat.le_refl _))
        have R2 := Lib.hid r2
        clear r2
        clear b3 B2
        obtain ⟨c0, c1, c2, c3⟩ := BX.out.four'
        have ltBX := BX.out.lt
        obtain ⟨d0, d1, d2, d3⟩ := BY.out.four'
        have ltBY := BY.out.lt
        obtain ⟨l0, l1, l2, l3, l4, l5, l6, l7, l8, l9⟩ := BZ.out.ten'
        have ltBZ := BZ.out.lt
        have T1 := fun nq => text_is (w3.drewN nq) _ _ _ _ (R1.out.drewN nq)
        have T2 := fun nq => text_is (w3.drewN nq) _ _ _ _ (R2.out.drewN nq)
        go_wp2_with fail
        go_quiet (fail)
        rename_i nq
        clear c0 c1 c2 c3 d0 d1 d2 d3 l0 l1 l2 l3 l4 l5 l6 l7 l8 l9 ltBX ltBY ltBZ
        replace BX := Lib.hid (BX.out.here (below_drewN (Below.refl _ _) nq))
        replace BY := Lib.hid (BY.out.here (below_drewN (Below.refl _ _) nq))
        replace BZ := Lib.hid (BZ.out.here (below_drewN (Below.refl _ _) nq))
        replace R1 := Lib.hid (R1.out.here (below_drewN (Below.refl _ _) nq))
        replace R2 := Lib.hid (R2.out.here (below_drewN (Below.refl _ _) nq))
        replace B3 := Lib.hid (below_drewN B3.out nq)
        clear T1 T2
        generalize w3.drewN nq = w3' at *
        obtain ⟨c0, c1, c2, c3⟩ := BX.out.four'
        have ltBX := BX.out.lt
        obtain ⟨d0, d1, d2, d3⟩ := BY.out.four'
        have ltBY := BY.out.lt
        obtain ⟨l0, l1, l2, l3, l4, l5, l6, l7, l8, l9⟩ := BZ.out.ten'
        have ltBZ := BZ.out.lt
        go_wp2_with fail
        (with_reducible refine (CL.out _).mono ?_)
        rintro e w4 ⟨a5, k5, rfl, r5, -, b4⟩
        clear c0 c1 c2 c3 d0 d1 d2 d3 l0 l1 l2 l3 l4 l5 l6 l7 l8 l9 ltBX ltBY ltBZ
        replace BX := Lib.hid (BX.out.here b4)
        replace BY := Lib.hid (BY.out.here b4)
        replace BZ := Lib.hid (BZ.out.here b4)
        replace R1 := Lib.hid (R1.out.here b4)
        replace R2 := Lib.hid (R2.out.here b4)
        have B4 := Lib.hid (thence B3.out b4 (Nat.le_refl _))
        have R5 := Lib.hid r5
        clear r5
        clear b4 B3
        obtain ⟨c0, c1, c2, c3⟩ := BX.out.four'
        have ltBX := BX.out.lt
        obtain ⟨d0, d1, d2, d3⟩ := BY.out.four'
        have ltBY := BY.out.lt
        obtain ⟨l0, l1, l2, l3, l4, l5, l6, l7, l8, l9⟩ := BZ.out.ten'
        have ltBZ := BZ.out.lt
        have CS : Hid (∀ (a : Option Addr) (n : Nat) (w1 : World), Rd w1.heap.size w1 a 128 n Q → Calls Try.prog 11 #[.slice a 128 n] w1 fun e w' => e = .returned (.tuple #[.agg #[.int .u32 0, .int .u32 0, .int .u32 0, .int .i64 0], .int .i64 90]) ∧ Below w1.heap.size w1 w') := fun a n w1 hr => by have := I.read a 128 n Q w1 hr; rw [SB.rd_first (.inr QL.out) (by rw [QF.out]; decide)] at this; exact this
        go_wp2_with fail
        (with_reducible refine (CS.out _ _ _ R5.out).mono ?_)
        rintro e w5 ⟨rfl, b5⟩
        clear c0 c1 c2 c3 d0 d1 d2 d3 l0 l1 l2 l3 l4 l5 l6 l7 l8 l9 ltBX ltBY ltBZ
        replace BX := Lib.hid (BX.out.here b5)
        replace BY := Lib.hid (BY.out.here b5)
        replace BZ := Lib.hid (BZ.out.here b5)
        replace R1 := Lib.hid (R1.out.here b5)
        replace R2 := Lib.hid (R2.out.here b5)
        replace R5 := Lib.hid (R5.out.here b5)
        have ha5 : Below w5.heap.size w5 (w5.alloc (.cells #[.int .u32 0, .int .u32 0, .int .u32 0, .int .i64 0] 28)) := (Below.refl _ _).alloc (Nat.le_refl _) _
        replace BX := Lib.hid (BX.out.here ha5)
        replace BY := Lib.hid (BY.out.here ha5)
        replace BZ := Lib.hid (BZ.out.here ha5)
        replace R1 := Lib.hid (R1.out.here ha5)
        replace R2 := Lib.hid (R2.out.here ha5)
        replace R5 := Lib.hid (R5.out.here ha5)
        have BM : Hid (Bx (w5.alloc (.cells #[.int .u32 0, .int .u32 0, .int .u32 0, .int .i64 0] 28)) w5.heap.size [.int .u32 0, .int .u32 0, .int .u32 0, .int .i64 0]) := Bx.new w5 [.int .u32 0, .int .u32 0, .int .u32 0, .int .i64 0] 28
        have B5 := Lib.hid (thence B4.out (thence b5 ha5 (Nat.le_refl _)) (Nat.le_refl _))
        clear ha5
        clear b5 B4
        obtain ⟨c0, c1, c2, c3⟩ := BX.out.four'
        have ltBX := BX.out.lt
        obtain ⟨d0, d1, d2, d3⟩ := BY.out.four'
        have ltBY := BY.out.lt
        obtain ⟨l0, l1, l2, l3, l4, l5, l6, l7, l8, l9⟩ := BZ.out.ten'
        have ltBZ := BZ.out.lt
        go_wp2_with fail
        go_ret
        exact ⟨rfl, B5.out⟩
      | false =>
        have CW := Lib.hid (fun w1 => I.no id age seq tail w1 HI.out hm)
        have CV := Lib.hid (fun w1 => I.yes id' age' seq' tail' w1 HJ.out (SB.may_iff.1 hn))
        have CL := Lib.hid (fun w1 => J.no li ev mem chunk rows log me lost done op w1 HK.out ho)
        generalize Sup.block ⟨id', age', seq', tail'⟩ = K' at *
        clear hm hn ho
        go_enter Try.func7, Try.ntmps7
        go_wp2_with fail
        generalize (((w.alloc (.cells #[.int .u32 (id : Int), .int .u32 (age : Int), .int .u32 (seq : Int), .int .i64 tail] 28)).alloc (.cells #[.int .u32 (id' : Int), .int .u32 (age' : Int), .int .u32 (seq' : Int), .int .i64 tail'] 28)).alloc (.cells #[.int .u32 (li : Int), .int .u32 (ev : Int), .int .i64 mem, .int .i64 chunk, .int .i64 rows, .int .i64 log, .int .i64 me, .int .i64 lost, .int .i64 done, .bool op] 43)) = W0 at *
        obtain ⟨c0, c1, c2, c3⟩ := BX.out.four'
        have ltBX := BX.out.lt
        obtain ⟨d0, d1, d2, d3⟩ := BY.out.four'
        have ltBY := BY.out.lt
        obtain ⟨l0, l1, l2, l3, l4, l5, l6, l7, l8, l9⟩ := BZ.out.ten'
        have ltBZ := BZ.out.lt
        (with_reducible refine (CA.out _).mono ?_)
        rintro e w1 ⟨rfl, b1⟩
        clear c0 c1 c2 c3 d0 d1 d2 d3 l0 l1 l2 l3 l4 l5 l6 l7 l8 l9 ltBX ltBY ltBZ
        replace BX := Lib.hid (BX.out.here b1)
        replace BY := Lib.hid (BY.out.here b1)
        replace BZ := Lib.hid (BZ.out.here b1)
        have B1 := Lib.hid (thence B0.out b1 (Nat.le_refl _))
        clear b1 B0
        obtain ⟨c0, c1, c2, c3⟩ := BX.out.four'
        have ltBX := BX.out.lt
        obtain ⟨d0, d1, d2, d3⟩ := BY.out.four'
        have ltBY := BY.out.lt
        obtain ⟨l0, l1, l2, l3, l4, l5, l6, l7, l8, l9⟩ := BZ.out.ten'
        have ltBZ := BZ.out.lt
        go_wp2_with fail
        (with_reducible refine (CW.out _).mono ?_)
        rintro e w2 ⟨a1, k1, rfl, r1, b2⟩
        clear c0 c1 c2 c3 d0 d1 d2 d3 l0 l1 l2 l3 l4 l5 l6 l7 l8 l9 ltBX ltBY ltBZ
        replace BX := Lib.hid (BX.out.here b2)
        replace BY := Lib.hid (BY.out.here b2)
        replace BZ := Lib.hid (BZ.out.here b2)
        have B2 := Lib.hid (thence B1.out b2 (Nat.le_refl _))
        have R1 := Lib.hid r1
        clear r1
        clear b2 B1
        obtain ⟨c0, c1, c2, c3⟩ := BX.out.four'
        have ltBX := BX.out.lt
        obtain ⟨d0, d1, d2, d3⟩ := BY.out.four'
        have ltBY := BY.out.lt
        obtain ⟨l0, l1, l2, l3, l4, l5, l6, l7, l8, l9⟩ := BZ.out.ten'
        have ltBZ := BZ.out.lt
        go_wp2_with fail
        (with_reducible refine (CV.out _).mono ?_)
        rintro e w3 ⟨a2, k2, rfl, r2, -, b3⟩
        clear c0 c1 c2 c3 d0 d1 d2 d3 l0 l1 l2 l3 l4 l5 l6 l7 l8 l9 ltBX ltBY ltBZ
        replace BX := Lib.hid (BX.out.here b3)
        replace BY := Lib.hid (BY.out.here b3)
        replace BZ := Lib.hid (BZ.out.here b3)
        replace R1 := Lib.hid (R1.out.here b3)
        have B3 := Lib.hid (thence B2.out b3 (Nat.le_refl _))
        have R2 := Lib.hid r2
        clear r2
        clear b3 B2
        obtain ⟨c0, c1, c2, c3⟩ := BX.out.four'
        have ltBX := BX.out.lt
        obtain ⟨d0, d1, d2, d3⟩ := BY.out.four'
        have ltBY := BY.out.lt
        obtain ⟨l0, l1, l2, l3, l4, l5, l6, l7, l8, l9⟩ := BZ.out.ten'
        have ltBZ := BZ.out.lt
        have T1 := fun nq => text_is (w3.drewN nq) _ _ _ _ (R1.out.drewN nq)
        have T2 := fun nq => text_is (w3.drewN nq) _ _ _ _ (R2.out.drewN nq)
        go_wp2_with fail
        go_quiet (fail)
        rename_i nq
        clear c0 c1 c2 c3 d0 d1 d2 d3 l0 l1 l2 l3 l4 l5 l6 l7 l8 l9 ltBX ltBY ltBZ
        replace BX := Lib.hid (BX.out.here (below_drewN (Below.refl _ _) nq))
        replace BY := Lib.hid (BY.out.here (below_drewN (Below.refl _ _) nq))
        replace BZ := Lib.hid (BZ.out.here (below_drewN (Below.refl _ _) nq))
        replace R1 := Lib.hid (R1.out.here (below_drewN (Below.refl _ _) nq))
        replace R2 := Lib.hid (R2.out.here (below_drewN (Below.refl _ _) nq))
        replace B3 := Lib.hid (below_drewN B3.out nq)
        clear T1 T2
        generalize w3.drewN nq = w3' at *
        obtain ⟨c0, c1, c2, c3⟩ := BX.out.four'
        have ltBX := BX.out.lt
        obtain ⟨d0, d1, d2, d3⟩ := BY.out.four'
        have ltBY := BY.out.lt
        obtain ⟨l0, l1, l2, l3, l4, l5, l6, l7, l8, l9⟩ := BZ.out.ten'
        have ltBZ := BZ.out.lt
        go_wp2_with fail
        (with_reducible refine (CL.out _).mono ?_)
        rintro e w4 ⟨a5, k5, rfl, -, b4⟩
        clear c0 c1 c2 c3 d0 d1 d2 d3 l0 l1 l2 l3 l4 l5 l6 l7 l8 l9 ltBX ltBY ltBZ
        replace BX := Lib.hid (BX.out.here b4)
        replace BY := Lib.hid (BY.out.here b4)
        replace BZ := Lib.hid (BZ.out.here b4)
        replace R1 := Lib.hid (R1.out.here b4)
        replace R2 := Lib.hid (R2.out.here b4)
        have B4 := Lib.hid (thence B3.out b4 (Nat.le_refl _))
        clear b4 B3
        obtain ⟨c0, c1, c2, c3⟩ := BX.out.four'
        have ltBX := BX.out.lt
        obtain ⟨d0, d1, d2, d3⟩ := BY.out.four'
        have ltBY := BY.out.lt
        obtain ⟨l0, l1, l2, l3, l4, l5, l6, l7, l8, l9⟩ := BZ.out.ten'
        have ltBZ := BZ.out.lt
        go_wp2_with fail
        go_ret
        exact ⟨rfl, B4.out⟩
    | false =>
      cases ho : LB.Lab.may ⟨li, ev, mem, chunk, rows, log, me, lost, done, op⟩ with
      | true =>
        have CW := Lib.hid (fun w1 => I.no id age seq tail w1 HI.out hm)
        have CV := Lib.hid (fun w1 => I.no id' age' seq' tail' w1 HJ.out hn)
        have CL := Lib.hid (fun w1 => J.yes li ev mem chunk rows log me lost done op w1 HK.out (LB.may_iff.1 ho))
        have QL : Hid ((LB.Lab.block ⟨li, ev, mem, chunk, rows, log, me, lost, done, op⟩).length = 128) := LB.block_length _
        have QF : Hid ((LB.Lab.block ⟨li, ev, mem, chunk, rows, log, me, lost, done, op⟩).getD 0 0 = 76) := by show _ = _; rw [LB.block_get _ _ (by decide)]; rfl
        generalize LB.Lab.block ⟨li, ev, mem, chunk, rows, log, me, lost, done, op⟩ = Q at *
        clear hm hn ho
        go_enter Try.func7, Try.ntmps7
        go_wp2_with fail
        generalize (((w.alloc (.cells #[.int .u32 (id : Int), .int .u32 (age : Int), .int .u32 (seq : Int), .int .i64 tail] 28)).alloc (.cells #[.int .u32 (id' : Int), .int .u32 (age' : Int), .int .u32 (seq' : Int), .int .i64 tail'] 28)).alloc (.cells #[.int .u32 (li : Int), .int .u32 (ev : Int), .int .i64 mem, .int .i64 chunk, .int .i64 rows, .int .i64 log, .int .i64 me, .int .i64 lost, .int .i64 done, .bool op] 43)) = W0 at *
        obtain ⟨c0, c1, c2, c3⟩ := BX.out.four'
        have ltBX := BX.out.lt
        obtain ⟨d0, d1, d2, d3⟩ := BY.out.four'
        have ltBY := BY.out.lt
        obtain ⟨l0, l1, l2, l3, l4, l5, l6, l7, l8, l9⟩ := BZ.out.ten'
        have ltBZ := BZ.out.lt
        (with_reducible refine (CA.out _).mono ?_)
        rintro e w1 ⟨rfl, b1⟩
        clear c0 c1 c2 c3 d0 d1 d2 d3 l0 l1 l2 l3 l4 l5 l6 l7 l8 l9 ltBX ltBY ltBZ
        replace BX := Lib.hid (BX.out.here b1)
        replace BY := Lib.hid (BY.out.here b1)
        replace BZ := Lib.hid (BZ.out.here b1)
        have B1 := Lib.hid (thence B0.out b1 (Nat.le_refl _))
        clear b1 B0
        obtain ⟨c0, c1, c2, c3⟩ := BX.out.four'
        have ltBX := BX.out.lt
        obtain ⟨d0, d1, d2, d3⟩ := BY.out.four'
        have ltBY := BY.out.lt
        obtain ⟨l0, l1, l2, l3, l4, l5, l6, l7, l8, l9⟩ := BZ.out.ten'
        have ltBZ := BZ.out.lt
        go_wp2_with fail
        (with_reducible refine (CW.out _).mono ?_)
        rintro e w2 ⟨a1, k1, rfl, r1, b2⟩
        clear c0 c1 c2 c3 d0 d1 d2 d3 l0 l1 l2 l3 l4 l5 l6 l7 l8 l9 ltBX ltBY ltBZ
        replace BX := Lib.hid (BX.out.here b2)
        replace BY := Lib.hid (BY.out.here b2)
        replace BZ := Lib.hid (BZ.out.here b2)
        have B2 := Lib.hid (thence B1.out b2 (Nat.le_refl _))
        have R1 := Lib.hid r1
        clear r1
        clear b2 B1
        obtain ⟨c0, c1, c2, c3⟩ := BX.out.four'
        have ltBX := BX.out.lt
        obtain ⟨d0, d1, d2, d3⟩ := BY.out.four'
        have ltBY := BY.out.lt
        obtain ⟨l0, l1, l2, l3, l4, l5, l6, l7, l8, l9⟩ := BZ.out.ten'
        have ltBZ := BZ.out.lt
        go_wp2_with fail
        (with_reducible refine (CV.out _).mono ?_)
        rintro e w3 ⟨a2, k2, rfl, r2, b3⟩
        clear c0 c1 c2 c3 d0 d1 d2 d3 l0 l1 l2 l3 l4 l5 l6 l7 l8 l9 ltBX ltBY ltBZ
        replace BX := Lib.hid (BX.out.here b3)
        replace BY := Lib.hid (BY.out.here b3)
        replace BZ := Lib.hid (BZ.out.here b3)
        replace R1 := Lib.hid (R1.out.here b3)
        have B3 := Lib.hid (thence B2.out b3 (Nat.le_refl _))
        have R2 := Lib.hid r2
        clear r2
        clear b3 B2
        obtain ⟨c0, c1, c2, c3⟩ := BX.out.four'
        have ltBX := BX.out.lt
        obtain ⟨d0, d1, d2, d3⟩ := BY.out.four'
        have ltBY := BY.out.lt
        obtain ⟨l0, l1, l2, l3, l4, l5, l6, l7, l8, l9⟩ := BZ.out.ten'
        have ltBZ := BZ.out.lt
        have T1 := fun nq => text_is (w3.drewN nq) _ _ _ _ (R1.out.drewN nq)
        have T2 := fun nq => text_is (w3.drewN nq) _ _ _ _ (R2.out.drewN nq)
        go_wp2_with fail
        go_quiet (fail)
        rename_i nq
        clear c0 c1 c2 c3 d0 d1 d2 d3 l0 l1 l2 l3 l4 l5 l6 l7 l8 l9 ltBX ltBY ltBZ
        replace BX := Lib.hid (BX.out.here (below_drewN (Below.refl _ _) nq))
        replace BY := Lib.hid (BY.out.here (below_drewN (Below.refl _ _) nq))
        replace BZ := Lib.hid (BZ.out.here (below_drewN (Below.refl _ _) nq))
        replace R1 := Lib.hid (R1.out.here (below_drewN (Below.refl _ _) nq))
        replace R2 := Lib.hid (R2.out.here (below_drewN (Below.refl _ _) nq))
        replace B3 := Lib.hid (below_drewN B3.out nq)
        clear T1 T2
        generalize w3.drewN nq = w3' at *
        obtain ⟨c0, c1, c2, c3⟩ := BX.out.four'
        have ltBX := BX.out.lt
        obtain ⟨d0, d1, d2, d3⟩ := BY.out.four'
        have ltBY := BY.out.lt
        obtain ⟨l0, l1, l2, l3, l4, l5, l6, l7, l8, l9⟩ := BZ.out.ten'
        have ltBZ := BZ.out.lt
        go_wp2_with fail
        (with_reducible refine (CL.out _).mono ?_)
        rintro e w4 ⟨a5, k5, rfl, r5, -, b4⟩
        clear c0 c1 c2 c3 d0 d1 d2 d3 l0 l1 l2 l3 l4 l5 l6 l7 l8 l9 ltBX ltBY ltBZ
        replace BX := Lib.hid (BX.out.here b4)
        replace BY := Lib.hid (BY.out.here b4)
        replace BZ := Lib.hid (BZ.out.here b4)
        replace R1 := Lib.hid (R1.out.here b4)
        replace R2 := Lib.hid (R2.out.here b4)
        have B4 := Lib.hid (thence B3.out b4 (Nat.le_refl _))
        have R5 := Lib.hid r5
        clear r5
        clear b4 B3
        obtain ⟨c0, c1, c2, c3⟩ := BX.out.four'
        have ltBX := BX.out.lt
        obtain ⟨d0, d1, d2, d3⟩ := BY.out.four'
        have ltBY := BY.out.lt
        obtain ⟨l0, l1, l2, l3, l4, l5, l6, l7, l8, l9⟩ := BZ.out.ten'
        have ltBZ := BZ.out.lt
        have CS : Hid (∀ (a : Option Addr) (n : Nat) (w1 : World), Rd w1.heap.size w1 a 128 n Q → Calls Try.prog 11 #[.slice a 128 n] w1 fun e w' => e = .returned (.tuple #[.agg #[.int .u32 0, .int .u32 0, .int .u32 0, .int .i64 0], .int .i64 90]) ∧ Below w1.heap.size w1 w') := fun a n w1 hr => by have := I.read a 128 n Q w1 hr; rw [SB.rd_first (.inr QL.out) (by rw [QF.out]; decide)] at this; exact this
        go_wp2_with fail
        (with_reducible refine (CS.out _ _ _ R5.out).mono ?_)
        rintro e w5 ⟨rfl, b5⟩
        clear c0 c1 c2 c3 d0 d1 d2 d3 l0 l1 l2 l3 l4 l5 l6 l7 l8 l9 ltBX ltBY ltBZ
        replace BX := Lib.hid (BX.out.here b5)
        replace BY := Lib.hid (BY.out.here b5)
        replace BZ := Lib.hid (BZ.out.here b5)
        replace R1 := Lib.hid (R1.out.here b5)
        replace R2 := Lib.hid (R2.out.here b5)
        replace R5 := Lib.hid (R5.out.here b5)
        have ha5 : Below w5.heap.size w5 (w5.alloc (.cells #[.int .u32 0, .int .u32 0, .int .u32 0, .int .i64 0] 28)) := (Below.refl _ _).alloc (Nat.le_refl _) _
        replace BX := Lib.hid (BX.out.here ha5)
        replace BY := Lib.hid (BY.out.here ha5)
        replace BZ := Lib.hid (BZ.out.here ha5)
        replace R1 := Lib.hid (R1.out.here ha5)
        replace R2 := Lib.hid (R2.out.here ha5)
        replace R5 := Lib.hid (R5.out.here ha5)
        have BM : Hid (Bx (w5.alloc (.cells #[.int .u32 0, .int .u32 0, .int .u32 0, .int .i64 0] 28)) w5.heap.size [.int .u32 0, .int .u32 0, .int .u32 0, .int .i64 0]) := Bx.new w5 [.int .u32 0, .int .u32 0, .int .u32 0, .int .i64 0] 28
        have B5 := Lib.hid (thence B4.out (thence b5 ha5 (Nat.le_refl _)) (Nat.le_refl _))
        clear ha5
        clear b5 B4
        obtain ⟨c0, c1, c2, c3⟩ := BX.out.four'
        have ltBX := BX.out.lt
        obtain ⟨d0, d1, d2, d3⟩ := BY.out.four'
        have ltBY := BY.out.lt
        obtain ⟨l0, l1, l2, l3, l4, l5, l6, l7, l8, l9⟩ := BZ.out.ten'
        have ltBZ := BZ.out.lt
        go_wp2_with fail
        go_ret
        exact ⟨rfl, B5.out⟩
      | false =>
        have CW := Lib.hid (fun w1 => I.no id age seq tail w1 HI.out hm)
        have CV := Lib.hid (fun w1 => I.no id' age' seq' tail' w1 HJ.out hn)
        have CL := Lib.hid (fun w1 => J.no li ev mem chunk rows log me lost done op w1 HK.out ho)
        clear hm hn ho
        go_enter Try.func7, Try.ntmps7
        go_wp2_with fail
        generalize (((w.alloc (.cells #[.int .u32 (id : Int), .int .u32 (age : Int), .int .u32 (seq : Int), .int .i64 tail] 28)).alloc (.cells #[.int .u32 (id' : Int), .int .u32 (age' : Int), .int .u32 (seq' : Int), .int .i64 tail'] 28)).alloc (.cells #[.int .u32 (li : Int), .int .u32 (ev : Int), .int .i64 mem, .int .i64 chunk, .int .i64 rows, .int .i64 log, .int .i64 me, .int .i64 lost, .int .i64 done, .bool op] 43)) = W0 at *
        obtain ⟨c0, c1, c2, c3⟩ := BX.out.four'
        have ltBX := BX.out.lt
        obtain ⟨d0, d1, d2, d3⟩ := BY.out.four'
        have ltBY := BY.out.lt
        obtain ⟨l0, l1, l2, l3, l4, l5, l6, l7, l8, l9⟩ := BZ.out.ten'
        have ltBZ := BZ.out.lt
        (with_reducible refine (CA.out _).mono ?_)
        rintro e w1 ⟨rfl, b1⟩
        clear c0 c1 c2 c3 d0 d1 d2 d3 l0 l1 l2 l3 l4 l5 l6 l7 l8 l9 ltBX ltBY ltBZ
        replace BX := Lib.hid (BX.out.here b1)
        replace BY := Lib.hid (BY.out.here b1)
        replace BZ := Lib.hid (BZ.out.here b1)
        have B1 := Lib.hid (thence B0.out b1 (Nat.le_refl _))
        clear b1 B0
        obtain ⟨c0, c1, c2, c3⟩ := BX.out.four'
        have ltBX := BX.out.lt
        obtain ⟨d0, d1, d2, d3⟩ := BY.out.four'
        have ltBY := BY.out.lt
        obtain ⟨l0, l1, l2, l3, l4, l5, l6, l7, l8, l9⟩ := BZ.out.ten'
        have ltBZ := BZ.out.lt
        go_wp2_with fail
        (with_reducible refine (CW.out _).mono ?_)
        rintro e w2 ⟨a1, k1, rfl, r1, b2⟩
        clear c0 c1 c2 c3 d0 d1 d2 d3 l0 l1 l2 l3 l4 l5 l6 l7 l8 l9 ltBX ltBY ltBZ
        replace BX := Lib.hid (BX.out.here b2)
        replace BY := Lib.hid (BY.out.here b2)
        replace BZ := Lib.hid (BZ.out.here b2)
        have B2 := Lib.hid (thence B1.out b2 (Nat.le_refl _))
        have R1 := Lib.hid r1
        clear r1
        clear b2 B1
        obtain ⟨c0, c1, c2, c3⟩ := BX.out.four'
        have ltBX := BX.out.lt
        obtain ⟨d0, d1, d2, d3⟩ := BY.out.four'
        have ltBY := BY.out.lt
        obtain ⟨l0, l1, l2, l3, l4, l5, l6, l7, l8, l9⟩ := BZ.out.ten'
        have ltBZ := BZ.out.lt
        go_wp2_with fail
        (with_reducible refine (CV.out _).mono ?_)
        rintro e w3 ⟨a2, k2, rfl, r2, b3⟩
        clear c0 c1 c2 c3 d0 d1 d2 d3 l0 l1 l2 l3 l4 l5 l6 l7 l8 l9 ltBX ltBY ltBZ
        replace BX := Lib.hid (BX.out.here b3)
        replace BY := Lib.hid (BY.out.here b3)
        replace BZ := Lib.hid (BZ.out.here b3)
        replace R1 := Lib.hid (R1.out.here b3)
        have B3 := Lib.hid (thence B2.out b3 (Nat.le_refl _))
        have R2 := Lib.hid r2
        clear r2
        clear b3 B2
        obtain ⟨c0, c1, c2, c3⟩ := BX.out.four'
        have ltBX := BX.out.lt
        obtain ⟨d0, d1, d2, d3⟩ := BY.out.four'
        have ltBY := BY.out.lt
        obtain ⟨l0, l1, l2, l3, l4, l5, l6, l7, l8, l9⟩ := BZ.out.ten'
        have ltBZ := BZ.out.lt
        have T1 := fun nq => text_is (w3.drewN nq) _ _ _ _ (R1.out.drewN nq)
        have T2 := fun nq => text_is (w3.drewN nq) _ _ _ _ (R2.out.drewN nq)
        go_wp2_with fail
        go_quiet (fail)
        rename_i nq
        clear c0 c1 c2 c3 d0 d1 d2 d3 l0 l1 l2 l3 l4 l5 l6 l7 l8 l9 ltBX ltBY ltBZ
        replace BX := Lib.hid (BX.out.here (below_drewN (Below.refl _ _) nq))
        replace BY := Lib.hid (BY.out.here (below_drewN (Below.refl _ _) nq))
        replace BZ := Lib.hid (BZ.out.here (below_drewN (Below.refl _ _) nq))
        replace R1 := Lib.hid (R1.out.here (below_drewN (Below.refl _ _) nq))
        replace R2 := Lib.hid (R2.out.here (below_drewN (Below.refl _ _) nq))
        replace B3 := Lib.hid (below_drewN B3.out nq)
        clear T1 T2
        generalize w3.drewN nq = w3' at *
        obtain ⟨c0, c1, c2, c3⟩ := BX.out.four'
        have ltBX := BX.out.lt
        obtain ⟨d0, d1, d2, d3⟩ := BY.out.four'
        have ltBY := BY.out.lt
        obtain ⟨l0, l1, l2, l3, l4, l5, l6, l7, l8, l9⟩ := BZ.out.ten'
        have ltBZ := BZ.out.lt
        go_wp2_with fail
        (with_reducible refine (CL.out _).mono ?_)
        rintro e w4 ⟨a5, k5, rfl, -, b4⟩
        clear c0 c1 c2 c3 d0 d1 d2 d3 l0 l1 l2 l3 l4 l5 l6 l7 l8 l9 ltBX ltBY ltBZ
        replace BX := Lib.hid (BX.out.here b4)
        replace BY := Lib.hid (BY.out.here b4)
        replace BZ := Lib.hid (BZ.out.here b4)
        replace R1 := Lib.hid (R1.out.here b4)
        replace R2 := Lib.hid (R2.out.here b4)
        have B4 := Lib.hid (thence B3.out b4 (Nat.le_refl _))
        clear b4 B3
        obtain ⟨c0, c1, c2, c3⟩ := BX.out.four'
        have ltBX := BX.out.lt
        obtain ⟨d0, d1, d2, d3⟩ := BY.out.four'
        have ltBY := BY.out.lt
        obtain ⟨l0, l1, l2, l3, l4, l5, l6, l7, l8, l9⟩ := BZ.out.ten'
        have ltBZ := BZ.out.lt
        go_wp2_with fail
        go_ret
        exact ⟨rfl, B4.out⟩
end Go.Proofs.Ytjdcnajppjamgaa.PW
