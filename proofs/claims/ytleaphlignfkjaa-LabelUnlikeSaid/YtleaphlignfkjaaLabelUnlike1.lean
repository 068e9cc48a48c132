/-
  Layer 9's laws, given what the program's calls answer.
-/
import Derived.Test.YtleaphlignfkjaaLabelLaws
import Derived.Deep.QuietTactic
import Derived.BigQuiet
namespace Go.Proofs.Ytleaphlignfkjaa.PW
open Go.RowKit
open SK (Cfg)
open LB (Lab)
set_option linter.unusedVariables false
set_option linter.unusedSimpArgs false
set_option maxRecDepth 100000

set_option maxHeartbeats 2000000 in
theorem labelUnlike_walk (I : LabelIs) (id ev : Nat) (mem chunk rows log me lost done : Int) (op : Bool) (id' ev' : Nat) (mem' chunk' rows' log' me' lost' done' : Int) (op' : Bool) (w : World) (hid : id < 4294967296) (hid' : id' < 4294967296) :
    Calls Try.prog 8 #[.agg #[.int .u32 (id : Int), .int .u32 (ev : Int), .int .i64 mem, .int .i64 chunk, .int .i64 rows, .int .i64 log, .int .i64 me, .int .i64 lost, .int .i64 done, .bool op], .agg #[.int .u32 (id' : Int), .int .u32 (ev' : Int), .int .i64 mem', .int .i64 chunk', .int .i64 rows', .int .i64 log', .int .i64 me', .int .i64 lost', .int .i64 done', .bool op']] w fun e w' => e = .returned (.bool true) ∧ Below w.heap.size w w' := by
  have CA : Hid (∀ w1, Calls Try.prog 13 #[] w1 fun e w' => e = .returned (.bool true) ∧ Below w1.heap.size w1 w') := alive9_any I
  have ha1 : Below w.heap.size w (w.alloc (.cells #[.int .u32 (id : Int), .int .u32 (ev : Int), .int .i64 mem, .int .i64 chunk, .int .i64 rows, .int .i64 log, .int .i64 me, .int .i64 lost, .int .i64 done, .bool op] 28)) := (Below.refl _ _).alloc (Nat.le_refl _) _
  have ha2 : Below (w.alloc (.cells #[.int .u32 (id : Int), .int .u32 (ev : Int), .int .i64 mem, .int .i64 chunk, .int .i64 rows, .int .i64 log, .int .i64 me, .int .i64 lost, .int .i64 done, .bool op] 28)).heap.size (w.alloc (.cells #[.int .u32 (id : Int), .int .u32 (ev : Int), .int .i64 mem, .int .i64 chunk, .int .i64 rows, .int .i64 log, .int .i64 me, .int .i64 lost, .int .i64 done, .bool op] 28)) ((w.alloc (.cells #[.int .u32 (id : Int), .int .u32 (ev : Int), .int .i64 mem, .int .i64 chunk, .int .i64 rows, .int .i64 log, .int .i64 me, .int .i64 lost, .int .i64 done, .bool op] 28)).alloc (.cells #[.int .u32 (id' : Int), .int .u32 (ev' : Int), .int .i64 mem', .int .i64 chunk', .int .i64 rows', .int .i64 log', .int .i64 me', .int .i64 lost', .int .i64 done', .bool op'] 28)) := (Below.refl _ _).alloc (Nat.le_refl _) _
  have B0 : Hid (Below w.heap.size w ((w.alloc (.cells #[.int .u32 (id : Int), .int .u32 (ev : Int), .int .i64 mem, .int .i64 chunk, .int .i64 rows, .int .i64 log, .int .i64 me, .int .i64 lost, .int .i64 done, .bool op] 28)).alloc (.cells #[.int .u32 (id' : Int), .int .u32 (ev' : Int), .int .i64 mem', .int .i64 chunk', .int .i64 rows', .int .i64 log', .int .i64 me', .int .i64 lost', .int .i64 done', .bool op'] 28))) := thence ha1 ha2 (Nat.le_refl _)
  have BX : Hid (Bx ((w.alloc (.cells #[.int .u32 (id : Int), .int .u32 (ev : Int), .int .i64 mem, .int .i64 chunk, .int .i64 rows, .int .i64 log, .int .i64 me, .int .i64 lost, .int .i64 done, .bool op] 28)).alloc (.cells #[.int .u32 (id' : Int), .int .u32 (ev' : Int), .int .i64 mem', .int .i64 chunk', .int .i64 rows', .int .i64 log', .int .i64 me', .int .i64 lost', .int .i64 done', .bool op'] 28)) w.heap.size [.int .u32 (id : Int), .int .u32 (ev : Int), .int .i64 mem, .int .i64 chunk, .int .i64 rows, .int .i64 log, .int .i64 me, .int .i64 lost, .int .i64 done, .bool op]) := (Bx.new w [.int .u32 (id : Int), .int .u32 (ev : Int), .int .i64 mem, .int .i64 chunk, .int .i64 rows, .int .i64 log, .int .i64 me, .int .i64 lost, .int .i64 done, .bool op] 28).here ha2
  have BY : Hid (Bx ((w.alloc (.cells #[.int .u32 (id : Int), .int .u32 (ev : Int), .int .i64 mem, .int .i64 chunk, .int .i64 rows, .int .i64 log, .int .i64 me, .int .i64 lost, .int .i64 done, .bool op] 28)).alloc (.cells #[.int .u32 (id' : Int), .int .u32 (ev' : Int), .int .i64 mem', .int .i64 chunk', .int .i64 rows', .int .i64 log', .int .i64 me', .int .i64 lost', .int .i64 done', .bool op'] 28)) (w.heap.size + 1) [.int .u32 (id' : Int), .int .u32 (ev' : Int), .int .i64 mem', .int .i64 chunk', .int .i64 rows', .int .i64 log', .int .i64 me', .int .i64 lost', .int .i64 done', .bool op']) := by
    have h := Bx.new (w.alloc (.cells #[.int .u32 (id : Int), .int .u32 (ev : Int), .int .i64 mem, .int .i64 chunk, .int .i64 rows, .int .i64 log, .int .i64 me, .int .i64 lost, .int .i64 done, .bool op] 28)) [.int .u32 (id' : Int), .int .u32 (ev' : Int), .int .i64 mem', .int .i64 chunk', .int .i64 rows', .int .i64 log', .int .i64 me', .int .i64 lost', .int .i64 done', .bool op'] 28
    have e : (w.alloc (.cells #[.int .u32 (id : Int), .int .u32 (ev : Int), .int .i64 mem, .int .i64 chunk, .int .i64 rows, .int .i64 log, .int .i64 me, .int .i64 lost, .int .i64 done, .bool op] 28)).heap.size = w.heap.size + 1 := by simp
    rw [e] at h
    exact h
  clear ha1 ha2
  have HI := Lib.hid hid
  have HJ := Lib.hid hid'
  clear hid hid'
  cases hm : Lab.may ⟨id, ev, mem, chunk, rows, log, me, lost, done, op⟩ with
  | true =>
    cases hn : Lab.may ⟨id', ev', mem', chunk', rows', log', me', lost', done', op'⟩ with
    | true =>
      have ym := LB.may_iff.1 hm
      have yn := LB.may_iff.1 hn
      clear hm hn
      by_cases q0 : id = id'
      case neg =>
        have n1 : ((id : Int) == (id' : Int)) = false := beq_eq_false_iff_ne.2 (fun e => q0 (by omega))
        have n2 : ¬ (id : Int) = (id' : Int) := fun e => q0 (by omega)
        have CW := Lib.hid (fun w1 => I.yes id ev mem chunk rows log me lost done op w1 HI.out ym)
        have CV := Lib.hid (fun w1 => I.yes id' ev' mem' chunk' rows' log' me' lost' done' op' w1 HJ.out yn)
        have CK : Hid (∀ w1, Calls Try.prog 14 #[.agg #[.int .u32 (id : Int), .int .u32 (ev : Int), .int .i64 mem, .int .i64 chunk, .int .i64 rows, .int .i64 log, .int .i64 me, .int .i64 lost, .int .i64 done, .bool op]] w1 fun e w' => e = .returned (.int .i64 0) ∧ Below w1.heap.size w1 w') := fun w1 => by have := I.check id ev mem chunk rows log me lost done op w1 HI.out; rw [LB.code_yes (LB.may_iff.2 ym)] at this; exact this
        have HNE : Hid (Lab.block ⟨id, ev, mem, chunk, rows, log, me, lost, done, op⟩ ≠ Lab.block ⟨id', ev', mem', chunk', rows', log', me', lost', done', op'⟩) := fun e => by have := (LB.block_inj ym yn HI.out HJ.out).1 e; injection this; contradiction
        generalize Lab.block ⟨id, ev, mem, chunk, rows, log, me, lost, done, op⟩ = K at *
        generalize Lab.block ⟨id', ev', mem', chunk', rows', log', me', lost', done', op'⟩ = K' at *
        clear ym yn
        go_enter Try.func8, Try.ntmps8
        go_wp2_with fail
        generalize (w.alloc (.cells #[.int .u32 (id : Int), .int .u32 (ev : Int), .int .i64 mem, .int .i64 chunk, .int .i64 rows, .int .i64 log, .int .i64 me, .int .i64 lost, .int .i64 done, .bool op] 28)).alloc (.cells #[.int .u32 (id' : Int), .int .u32 (ev' : Int), .int .i64 mem', .int .i64 chunk', .int .i64 rows', .int .i64 log', .int .i64 me', .int .i64 lost', .int .i64 done', .bool op'] 28) = W0 at *
        obtain ⟨c0, c1, c2, c3, c4, c5, c6, c7, c8, c9⟩ := BX.out.ten
        obtain ⟨d0, d1, d2, d3, d4, d5, d6, d7, d8, d9⟩ := BY.out.ten
        have ltBX := BX.out.lt
        have ltBY := BY.out.lt
        (with_reducible refine (CA.out _).mono ?_)
        rintro e w1 ⟨rfl, b1⟩
        clear c0 c1 c2 c3 c4 c5 c6 c7 c8 c9 d0 d1 d2 d3 d4 d5 d6 d7 d8 d9 ltBX ltBY
        replace BX := Lib.hid (BX.out.here b1)
        replace BY := Lib.hid (BY.out.here b1)
        have B1 := Lib.hid (thence B0.out b1 (Nat.le_refl _))
        clear b1 B0
        obtain ⟨c0, c1, c2, c3, c4, c5, c6, c7, c8, c9⟩ := BX.out.ten
        have ltBX := BX.out.lt
        obtain ⟨d0, d1, d2, d3, d4, d5, d6, d7, d8, d9⟩ := BY.out.ten
        have ltBY := BY.out.lt
        go_wp2_with fail
        (with_reducible refine (CW.out _).mono ?_)
        rintro e w2 ⟨a1, k1, rfl, r1, -, b2⟩
        clear c0 c1 c2 c3 c4 c5 c6 c7 c8 c9 d0 d1 d2 d3 d4 d5 d6 d7 d8 d9 ltBX ltBY
        replace BX := Lib.hid (BX.out.here b2)
        replace BY := Lib.hid (BY.out.here b2)
        have B2 := Lib.hid (thence B1.out b2 (Nat.le_refl _))
        have R1 := Lib.hid r1
        clear r1
        clear b2 B1
        obtain ⟨c0, c1, c2, c3, c4, c5, c6, c7, c8, c9⟩ := BX.out.ten
        have ltBX := BX.out.lt
        obtain ⟨d0, d1, d2, d3, d4, d5, d6, d7, d8, d9⟩ := BY.out.ten
        have ltBY := BY.out.lt
        go_wp2_with fail
        (with_reducible refine (CV.out _).mono ?_)
        rintro e w3 ⟨a2, k2, rfl, r2, -, b3⟩
        clear c0 c1 c2 c3 c4 c5 c6 c7 c8 c9 d0 d1 d2 d3 d4 d5 d6 d7 d8 d9 ltBX ltBY
        replace BX := Lib.hid (BX.out.here b3)
        replace BY := Lib.hid (BY.out.here b3)
        replace R1 := Lib.hid (R1.out.here b3)
        have B3 := Lib.hid (thence B2.out b3 (Nat.le_refl _))
        have R2 := Lib.hid r2
        clear r2
        clear b3 B2
        obtain ⟨c0, c1, c2, c3, c4, c5, c6, c7, c8, c9⟩ := BX.out.ten
        have ltBX := BX.out.lt
        obtain ⟨d0, d1, d2, d3, d4, d5, d6, d7, d8, d9⟩ := BY.out.ten
        have ltBY := BY.out.lt
        go_wp2_with fail
        (with_reducible refine (CK.out _).mono ?_)
        rintro e w4 ⟨rfl, b4⟩
        clear c0 c1 c2 c3 c4 c5 c6 c7 c8 c9 d0 d1 d2 d3 d4 d5 d6 d7 d8 d9 ltBX ltBY
        replace BX := Lib.hid (BX.out.here b4)
        replace BY := Lib.hid (BY.out.here b4)
        replace R1 := Lib.hid (R1.out.here b4)
        replace R2 := Lib.hid (R2.out.here b4)
        have B4 := Lib.hid (thence B3.out b4 (Nat.le_refl _))
        clear b4 B3
        obtain ⟨c0, c1, c2, c3, c4, c5, c6, c7, c8, c9⟩ := BX.out.ten
        have ltBX := BX.out.lt
        obtain ⟨d0, d1, d2, d3, d4, d5, d6, d7, d8, d9⟩ := BY.out.ten
        have ltBY := BY.out.lt
        have T1 := fun nq => text_is (w4.drewN nq) _ _ _ _ (R1.out.drewN nq)
        have T2 := fun nq => text_is (w4.drewN nq) _ _ _ _ (R2.out.drewN nq)
        have HS := str_apart R1.out.byt R2.out.byt HNE.out
        go_wp2_with fail
        go_quiet (fail)
        rename_i nq
        have B5 := Lib.hid (below_drewN B4.out nq)
        go_wp2_with fail
        go_ret
        exact ⟨rfl, B5.out⟩
      subst q0
      by_cases q1 : ev = ev'
      case neg =>
        have n1 : ((ev : Int) == (ev' : Int)) = false := beq_eq_false_iff_ne.2 (fun e => q1 (by omega))
        have n2 : ¬ (ev : Int) = (ev' : Int) := fun e => q1 (by omega)
        have CW := Lib.hid (fun w1 => I.yes id ev mem chunk rows log me lost done op w1 HI.out ym)
        have CV := Lib.hid (fun w1 => I.yes id ev' mem' chunk' rows' log' me' lost' done' op' w1 HI.out yn)
        have CK : Hid (∀ w1, Calls Try.prog 14 #[.agg #[.int .u32 (id : Int), .int .u32 (ev : Int), .int .i64 mem, .int .i64 chunk, .int .i64 rows, .int .i64 log, .int .i64 me, .int .i64 lost, .int .i64 done, .bool op]] w1 fun e w' => e = .returned (.int .i64 0) ∧ Below w1.heap.size w1 w') := fun w1 => by have := I.check id ev mem chunk rows log me lost done op w1 HI.out; rw [LB.code_yes (LB.may_iff.2 ym)] at this; exact this
        have HNE : Hid (Lab.block ⟨id, ev, mem, chunk, rows, log, me, lost, done, op⟩ ≠ Lab.block ⟨id, ev', mem', chunk', rows', log', me', lost', done', op'⟩) := fun e => by have := (LB.block_inj ym yn HI.out HI.out).1 e; injection this; contradiction
        generalize Lab.block ⟨id, ev, mem, chunk, rows, log, me, lost, done, op⟩ = K at *
        generalize Lab.block ⟨id, ev', mem', chunk', rows', log', me', lost', done', op'⟩ = K' at *
        clear ym yn
        go_enter Try.func8, Try.ntmps8
        go_wp2_with fail
        generalize (w.alloc (.cells #[.int .u32 (id : Int), .int .u32 (ev : Int), .int .i64 mem, .int .i64 chunk, .int .i64 rows, .int .i64 log, .int .i64 me, .int .i64 lost, .int .i64 done, .bool op] 28)).alloc (.cells #[.int .u32 (id : Int), .int .u32 (ev' : Int), .int .i64 mem', .int .i64 chunk', .int .i64 rows', .int .i64 log', .int .i64 me', .int .i64 lost', .int .i64 done', .bool op'] 28) = W0 at *
        obtain ⟨c0, c1, c2, c3, c4, c5, c6, c7, c8, c9⟩ := BX.out.ten
        obtain ⟨d0, d1, d2, d3, d4, d5, d6, d7, d8, d9⟩ := BY.out.ten
        have ltBX := BX.out.lt
        have ltBY := BY.out.lt
        (with_reducible refine (CA.out _).mono ?_)
        rintro e w1 ⟨rfl, b1⟩
        clear c0 c1 c2 c3 c4 c5 c6 c7 c8 c9 d0 d1 d2 d3 d4 d5 d6 d7 d8 d9 ltBX ltBY
        replace BX := Lib.hid (BX.out.here b1)
        replace BY := Lib.hid (BY.out.here b1)
        have B1 := Lib.hid (thence B0.out b1 (Nat.le_refl _))
        clear b1 B0
        obtain ⟨c0, c1, c2, c3, c4, c5, c6, c7, c8, c9⟩ := BX.out.ten
        have ltBX := BX.out.lt
        obtain ⟨d0, d1, d2, d3, d4, d5, d6, d7, d8, d9⟩ := BY.out.ten
        have ltBY := BY.out.lt
        go_wp2_with fail
        (with_reducible refine (CW.out _).mono ?_)
        rintro e w2 ⟨a1, k1, rfl, r1, -, b2⟩
        clear c0 c1 c2 c3 c4 c5 c6 c7 c8 c9 d0 d1 d2 d3 d4 d5 d6 d7 d8 d9 ltBX ltBY
        replace BX := Lib.hid (BX.out.here b2)
        replace BY := Lib.hid (BY.out.here b2)
        have B2 := Lib.hid (thence B1.out b2 (Nat.le_refl _))
        have R1 := Lib.hid r1
        clear r1
        clear b2 B1
        obtain ⟨c0, c1, c2, c3, c4, c5, c6, c7, c8, c9⟩ := BX.out.ten
        have ltBX := BX.out.lt
        obtain ⟨d0, d1, d2, d3, d4, d5, d6, d7, d8, d9⟩ := BY.out.ten
        have ltBY := BY.out.lt
        go_wp2_with fail
        (with_reducible refine (CV.out _).mono ?_)
        rintro e w3 ⟨a2, k2, rfl, r2, -, b3⟩
        clear c0 c1 c2 c3 c4 c5 c6 c7 c8 c9 d0 d1 d2 d3 d4 d5 d6 d7 d8 d9 ltBX ltBY
        replace BX := Lib.hid (BX.out.here b3)
        replace BY := Lib.hid (BY.out.here b3)
        replace R1 := Lib.hid (R1.out.here b3)
        have B3 := Lib.hid (thence B2.out b3 (Nat.le_refl _))
        have R2 := Lib.hid r2
        clear r2
        clear b3 B2
        obtain ⟨c0, c1, c2, c3, c4, c5, c6, c7, c8, c9⟩ := BX.out.ten
        have ltBX := BX.out.lt
        obtain ⟨d0, d1, d2, d3, d4, d5, d6, d7, d8, d9⟩ := BY.out.ten
        have ltBY := BY.out.lt
        go_wp2_with fail
        (with_reducible refine (CK.out _).mono ?_)
        rintro e w4 ⟨rfl, b4⟩
        clear c0 c1 c2 c3 c4 c5 c6 c7 c8 c9 d0 d1 d2 d3 d4 d5 d6 d7 d8 d9 ltBX ltBY
        replace BX := Lib.hid (BX.out.here b4)
        replace BY := Lib.hid (BY.out.here b4)
        replace R1 := Lib.hid (R1.out.here b4)
        replace R2 := Lib.hid (R2.out.here b4)
        have B4 := Lib.hid (thence B3.out b4 (Nat.le_refl _))
        clear b4 B3
        obtain ⟨c0, c1, c2, c3, c4, c5, c6, c7, c8, c9⟩ := BX.out.ten
        have ltBX := BX.out.lt
        obtain ⟨d0, d1, d2, d3, d4, d5, d6, d7, d8, d9⟩ := BY.out.ten
        have ltBY := BY.out.lt
        have T1 := fun nq => text_is (w4.drewN nq) _ _ _ _ (R1.out.drewN nq)
        have T2 := fun nq => text_is (w4.drewN nq) _ _ _ _ (R2.out.drewN nq)
        have HS := str_apart R1.out.byt R2.out.byt HNE.out
        go_wp2_with fail
        go_quiet (fail)
        rename_i nq
        have B5 := Lib.hid (below_drewN B4.out nq)
        go_wp2_with fail
        go_ret
        exact ⟨rfl, B5.out⟩
      subst q1
      by_cases q2 : mem = mem'
      case neg =>
        have n1 : (mem == mem') = false := beq_eq_false_iff_ne.2 q2
        have CW := Lib.hid (fun w1 => I.yes id ev mem chunk rows log me lost done op w1 HI.out ym)
        have CV := Lib.hid (fun w1 => I.yes id ev mem' chunk' rows' log' me' lost' done' op' w1 HI.out yn)
        have CK : Hid (∀ w1, Calls Try.prog 14 #[.agg #[.int .u32 (id : Int), .int .u32 (ev : Int), .int .i64 mem, .int .i64 chunk, .int .i64 rows, .int .i64 log, .int .i64 me, .int .i64 lost, .int .i64 done, .bool op]] w1 fun e w' => e = .returned (.int .i64 0) ∧ Below w1.heap.size w1 w') := fun w1 => by have := I.check id ev mem chunk rows log me lost done op w1 HI.out; rw [LB.code_yes (LB.may_iff.2 ym)] at this; exact this
        have HNE : Hid (Lab.block ⟨id, ev, mem, chunk, rows, log, me, lost, done, op⟩ ≠ Lab.block ⟨id, ev, mem', chunk', rows', log', me', lost', done', op'⟩) := fun e => by have := (LB.block_inj ym yn HI.out HI.out).1 e; injection this; contradiction
        generalize Lab.block ⟨id, ev, mem, chunk, rows, log, me, lost, done, op⟩ = K at *
        generalize Lab.block ⟨id, ev, mem', chunk', rows', log', me', lost', done', op'⟩ = K' at *
        clear ym yn
        go_enter Try.func8, Try.ntmps8
        go_wp2_with fail
        generalize (w.alloc (.cells #[.int .u32 (id : Int), .int .u32 (ev : Int), .int .i64 mem, .int .i64 chunk, .int .i64 rows, .int .i64 log, .int .i64 me, .int .i64 lost, .int .i64 done, .bool op] 28)).alloc (.cells #[.int .u32 (id : Int), .int .u32 (ev : Int), .int .i64 mem', .int .i64 chunk', .int .i64 rows', .int .i64 log', .int .i64 me', .int .i64 lost', .int .i64 done', .bool op'] 28) = W0 at *
        obtain ⟨c0, c1, c2, c3, c4, c5, c6, c7, c8, c9⟩ := BX.out.ten
        obtain ⟨d0, d1, d2, d3, d4, d5, d6, d7, d8, d9⟩ := BY.out.ten
        have ltBX := BX.out.lt
        have ltBY := BY.out.lt
        (with_reducible refine (CA.out _).mono ?_)
        rintro e w1 ⟨rfl, b1⟩
        clear c0 c1 c2 c3 c4 c5 c6 c7 c8 c9 d0 d1 d2 d3 d4 d5 d6 d7 d8 d9 ltBX ltBY
        replace BX := Lib.hid (BX.out.here b1)
        replace BY := Lib.hid (BY.out.here b1)
        have B1 := Lib.hid (thence B0.out b1 (Nat.le_refl _))
        clear b1 B0
        obtain ⟨c0, c1, c2, c3, c4, c5, c6, c7, c8, c9⟩ := BX.out.ten
        have ltBX := BX.out.lt
        obtain ⟨d0, d1, d2, d3, d4, d5, d6, d7, d8, d9⟩ := BY.out.ten
        have ltBY := BY.out.lt
        go_wp2_with fail
        (with_reducible refine (CW.out _).mono ?_)
        rintro e w2 ⟨a1, k1, rfl, r1, -, b2⟩
        clear c0 c1 c2 c3 c4 c5 c6 c7 c8 c9 d0 d1 d2 d3 d4 d5 d6 d7 d8 d9 ltBX ltBY
        replace BX := Lib.hid (BX.out.here b2)
        replace BY := Lib.hid (BY.out.here b2)
        have B2 := Lib.hid (thence B1.out b2 (Nat.le_refl _))
        have R1 := Lib.hid r1
        clear r1
        clear b2 B1
        obtain ⟨c0, c1, c2, c3, c4, c5, c6, c7, c8, c9⟩ := BX.out.ten
        have ltBX := BX.out.lt
        obtain ⟨d0, d1, d2, d3, d4, d5, d6, d7, d8, d9⟩ := BY.out.ten
        have ltBY := BY.out.lt
        go_wp2_with fail
        (with_reducible refine (CV.out _).mono ?_)
        rintro e w3 ⟨a2, k2, rfl, r2, -, b3⟩
        clear c0 c1 c2 c3 c4 c5 c6 c7 c8 c9 d0 d1 d2 d3 d4 d5 d6 d7 d8 d9 ltBX ltBY
        replace BX := Lib.hid (BX.out.here b3)
        replace BY := Lib.hid (BY.out.here b3)
        replace R1 := Lib.hid (R1.out.here b3)
        have B3 := Lib.hid (thence B2.out b3 (Nat.le_refl _))
        have R2 := Lib.hid r2
        clear r2
        clear b3 B2
        obtain ⟨c0, c1, c2, c3, c4, c5, c6, c7, c8, c9⟩ := BX.out.ten
        have ltBX := BX.out.lt
        obtain ⟨d0, d1, d2, d3, d4, d5, d6, d7, d8, d9⟩ := BY.out.ten
        have ltBY := BY.out.lt
        go_wp2_with fail
        (with_reducible refine (CK.out _).mono ?_)
        rintro e w4 ⟨rfl, b4⟩
        clear c0 c1 c2 c3 c4 c5 c6 c7 c8 c9 d0 d1 d2 d3 d4 d5 d6 d7 d8 d9 ltBX ltBY
        replace BX := Lib.hid (BX.out.here b4)
        replace BY := Lib.hid (BY.out.here b4)
        replace R1 := Lib.hid (R1.out.here b4)
        replace R2 := Lib.hid (R2.out.here b4)
        have B4 := Lib.hid (thence B3.out b4 (Nat.le_refl _))
        clear b4 B3
        obtain ⟨c0, c1, c2, c3, c4, c5, c6, c7, c8, c9⟩ := BX.out.ten
        have ltBX := BX.out.lt
        obtain ⟨d0, d1, d2, d3, d4, d5, d6, d7, d8, d9⟩ := BY.out.ten
        have ltBY := BY.out.lt
        have T1 := fun nq => text_is (w4.drewN nq) _ _ _ _ (R1.out.drewN nq)
        have T2 := fun nq => text_is (w4.drewN nq) _ _ _ _ (R2.out.drewN nq)
        have HS := str_apart R1.out.byt R2.out.byt HNE.out
        go_wp2_with fail
        go_quiet (fail)
        rename_i nq
        have B5 := Lib.hid (below_drewN B4.out nq)
        go_wp2_with fail
        go_ret
        exact ⟨rfl, B5.out⟩
      subst q2
      by_cases q3 : chunk = chunk'
      case neg =>
        have n1 : (chunk == chunk') = false := beq_eq_false_iff_ne.2 q3
        have CW := Lib.hid (fun w1 => I.yes id ev mem chunk rows log me lost done op w1 HI.out ym)
        have CV := Lib.hid (fun w1 => I.yes id ev mem chunk' rows' log' me' lost' done' op' w1 HI.out yn)
        have CK : Hid (∀ w1, Calls Try.prog 14 #[.agg #[.int .u32 (id : Int), .int .u32 (ev : Int), .int .i64 mem, .int .i64 chunk, .int .i64 rows, .int .i64 log, .int .i64 me, .int .i64 lost, .int .i64 done, .bool op]] w1 fun e w' => e = .returned (.int .i64 0) ∧ Below w1.heap.size w1 w') := fun w1 => by have := I.check id ev mem chunk rows log me lost done op w1 HI.out; rw [LB.code_yes (LB.may_iff.2 ym)] at this; exact this
        have HNE : Hid (Lab.block ⟨id, ev, mem, chunk, rows, log, me, lost, done, op⟩ ≠ Lab.block ⟨id, ev, mem, chunk', rows', log', me', lost', done', op'⟩) := fun e => by have := (LB.block_inj ym yn HI.out HI.out).1 e; injection this; contradiction
        generalize Lab.block ⟨id, ev, mem, chunk, rows, log, me, lost, done, op⟩ = K at *
        generalize Lab.block ⟨id, ev, mem, chunk', rows', log', me', lost', done', op'⟩ = K' at *
        clear ym yn
        go_enter Try.func8, Try.ntmps8
        go_wp2_with fail
        generalize (w.alloc (.cells #[.int .u32 (id : Int), .int .u32 (ev : Int), .int .i64 mem, .int .i64 chunk, .int .i64 rows, .int .i64 log, .int .i64 me, .int .i64 lost, .int .i64 done, .bool op] 28)).alloc (.cells #[.int .u32 (id : Int), .int .u32 (ev : Int), .int .i64 mem, .int .i64 chunk', .int .i64 rows', .int .i64 log', .int .i64 me', .int .i64 lost', .int .i64 done', .bool op'] 28) = W0 at *
        obtain ⟨c0, c1, c2, c3, c4, c5, c6, c7, c8, c9⟩ := BX.out.ten
        obtain ⟨d0, d1, d2, d3, d4, d5, d6, d7, d8, d9⟩ := BY.out.ten
        have ltBX := BX.out.lt
        have ltBY := BY.out.lt
        (with_reducible refine (CA.out _).mono ?_)
        rintro e w1 ⟨rfl, b1⟩
        clear c0 c1 c2 c3 c4 c5 c6 c7 c8 c9 d0 d1 d2 d3 d4 d5 d6 d7 d8 d9 ltBX ltBY
        replace BX := Lib.hid (BX.out.here b1)
        replace BY := Lib.hid (BY.out.here b1)
        have B1 := Lib.hid (thence B0.out b1 (Nat.le_refl _))
        clear b1 B0
        obtain ⟨c0, c1, c2, c3, c4, c5, c6, c7, c8, c9⟩ := BX.out.ten
        have ltBX := BX.out.lt
        obtain ⟨d0, d1, d2, d3, d4, d5, d6, d7, d8, d9⟩ := BY.out.ten
        have ltBY := BY.out.lt
        go_wp2_with fail
        (with_reducible refine (CW.out _).mono ?_)
        rintro e w2 ⟨a1, k1, rfl, r1, -, b2⟩
        clear c0 c1 c2 c3 c4 c5 c6 c7 c8 c9 d0 d1 d2 d3 d4 d5 d6 d7 d8 d9 ltBX ltBY
        replace BX := Lib.hid (BX.out.here b2)
        replace BY := Lib.hid (BY.out.here b2)
        have B2 := Lib.hid (thence B1.out b2 (Nat.le_refl _))
        have R1 := Lib.hid r1
        clear r1
        clear b2 B1
        obtain ⟨c0, c1, c2, c3, c4, c5, c6, c7, c8, c9⟩ := BX.out.ten
        have ltBX := BX.out.lt
        obtain ⟨d0, d1, d2, d3, d4, d5, d6, d7, d8, d9⟩ := BY.out.ten
        have ltBY := BY.out.lt
        go_wp2_with fail
        (with_reducible refine (CV.out _).mono ?_)
        rintro e w3 ⟨a2, k2, rfl, r2, -, b3⟩
        clear c0 c1 c2 c3 c4 c5 c6 c7 c8 c9 d0 d1 d2 d3 d4 d5 d6 d7 d8 d9 ltBX ltBY
        replace BX := Lib.hid (BX.out.here b3)
        replace BY := Lib.hid (BY.out.here b3)
        replace R1 := Lib.hid (R1.out.here b3)
        have B3 := Lib.hid (thence B2.out b3 (Nat.le_refl _))
        have R2 := Lib.hid r2
        clear r2
        clear b3 B2
        obtain ⟨c0, c1, c2, c3, c4, c5, c6, c7, c8, c9⟩ := BX.out.ten
        have ltBX := BX.out.lt
        obtain ⟨d0, d1, d2, d3, d4, d5, d6, d7, d8, d9⟩ := BY.out.ten
        have ltBY := BY.out.lt
        go_wp2_with fail
        (with_reducible refine (CK.out _).mono ?_)
        rintro e w4 ⟨rfl, b4⟩
        clear c0 c1 c2 c3 c4 c5 c6 c7 c8 c9 d0 d1 d2 d3 d4 d5 d6 d7 d8 d9 ltBX ltBY
        replace BX := Lib.hid (BX.out.here b4)
        replace BY := Lib.hid (BY.out.here b4)
        replace R1 := Lib.hid (R1.out.here b4)
        replace R2 := Lib.hid (R2.out.here b4)
        have B4 := Lib.hid (thence B3.out b4 (Nat.le_refl _))
        clear b4 B3
        obtain ⟨c0, c1, c2, c3, c4, c5, c6, c7, c8, c9⟩ := BX.out.ten
        have ltBX := BX.out.lt
        obtain ⟨d0, d1, d2, d3, d4, d5, d6, d7, d8, d9⟩ := BY.out.ten
        have ltBY := BY.out.lt
        have T1 := fun nq => text_is (w4.drewN nq) _ _ _ _ (R1.out.drewN nq)
        have T2 := fun nq => text_is (w4.drewN nq) _ _ _ _ (R2.out.drewN nq)
        have HS := str_apart R1.out.byt R2.out.byt HNE.out
        go_wp2_with fail
        go_quiet (fail)
        rename_i nq
        have B5 := Lib.hid (below_drewN B4.out nq)
        go_wp2_with fail
        go_ret
        exact ⟨rfl, B5.out⟩
      subst q3
      by_cases q4 : rows = rows'
      case neg =>
        have n1 : (rows == rows') = false := beq_eq_false_iff_ne.2 q4
        have CW := Lib.hid (fun w1 => I.yes id ev mem chunk rows log me lost done op w1 HI.out ym)
        have CV := Lib.hid (fun w1 => I.yes id ev mem chunk rows' log' me' lost' done' op' w1 HI.out yn)
        have CK : Hid (∀ w1, Calls Try.prog 14 #[.agg #[.int .u32 (id : Int), .int .u32 (ev : Int), .int .i64 mem, .int .i64 chunk, .int .i64 rows, .int .i64 log, .int .i64 me, .int .i64 lost, .int .i64 done, .bool op]] w1 fun e w' => e = .returned (.int .i64 0) ∧ Below w1.heap.size w1 w') := fun w1 => by have := I.check id ev mem chunk rows log me lost done op w1 HI.out; rw [LB.code_yes (LB.may_iff.2 ym)] at this; exact this
        have HNE : Hid (Lab.block ⟨id, ev, mem, chunk, rows, log, me, lost, done, op⟩ ≠ Lab.block ⟨id, ev, mem, chunk, rows', log', me', lost', done', op'⟩) := fun e => by have := (LB.block_inj ym yn HI.out HI.out).1 e; injection this; contradiction
        generalize Lab.block ⟨id, ev, mem, chunk, rows, log, me, lost, done, op⟩ = K at *
        generalize Lab.block ⟨id, ev, mem, chunk, rows', log', me', lost', done', op'⟩ = K' at *
        clear ym yn
        go_enter Try.func8, Try.ntmps8
        go_wp2_with fail
        generalize (w.alloc (.cells #[.int .u32 (id : Int), .int .u32 (ev : Int), .int .i64 mem, .int .i64 chunk, .int .i64 rows, .int .i64 log, .int .i64 me, .int .i64 lost, .int .i64 done, .bool op] 28)).alloc (.cells #[.int .u32 (id : Int), .int .u32 (ev : Int), .int .i64 mem, .int .i64 chunk, .int .i64 rows', .int .i64 log', .int .i64 me', .int .i64 lost', .int .i64 done', .bool op'] 28) = W0 at *
        obtain ⟨c0, c1, c2, c3, c4, c5, c6, c7, c8, c9⟩ := BX.out.ten
        obtain ⟨d0, d1, d2, d3, d4, d5, d6, d7, d8, d9⟩ := BY.out.ten
        have ltBX := BX.out.lt
        have ltBY := BY.out.lt
        (with_reducible refine (CA.out _).mono ?_)
        rintro e w1 ⟨rfl, b1⟩
        clear c0 c1 c2 c3 c4 c5 c6 c7 c8 c9 d0 d1 d2 d3 d4 d5 d6 d7 d8 d9 ltBX ltBY
        replace BX := Lib.hid (BX.out.here b1)
        replace BY := Lib.hid (BY.out.here b1)
        have B1 := Lib.hid (thence B0.out b1 (Nat.le_refl _))
        clear b1 B0
        obtain ⟨c0, c1, c2, c3, c4, c5, c6, c7, c8, c9⟩ := BX.out.ten
        have ltBX := BX.out.lt
        obtain ⟨d0, d1, d2, d3, d4, d5, d6, d7, d8, d9⟩ := BY.out.ten
        have ltBY := BY.out.lt
        go_wp2_with fail
        (with_reducible refine (CW.out _).mono ?_)
        rintro e w2 ⟨a1, k1, rfl, r1, -, b2⟩
        clear c0 c1 c2 c3 c4 c5 c6 c7 c8 c9 d0 d1 d2 d3 d4 d5 d6 d7 d8 d9 ltBX ltBY
        replace BX := Lib.hid (BX.out.here b2)
        replace BY := Lib.hid (BY.out.here b2)
        have B2 := Lib.hid (thence B1.out b2 (Nat.le_refl _))
        have R1 := Lib.hid r1
        clear r1
        clear b2 B1
        obtain ⟨c0, c1, c2, c3, c4, c5, c6, c7, c8, c9⟩ := BX.out.ten
        have ltBX := BX.out.lt
        obtain ⟨d0, d1, d2, d3, d4, d5, d6, d7, d8, d9⟩ := BY.out.ten
        have ltBY := BY.out.lt
        go_wp2_with fail
        (with_reducible refine (CV.out _).mono ?_)
        rintro e w3 ⟨a2, k2, rfl, r2, -, b3⟩
        clear c0 c1 c2 c3 c4 c5 c6 c7 c8 c9 d0 d1 d2 d3 d4 d5 d6 d7 d8 d9 ltBX ltBY
        replace BX := Lib.hid (BX.out.here b3)
        replace BY := Lib.hid (BY.out.here b3)
        replace R1 := Lib.hid (R1.out.here b3)
        have B3 := Lib.hid (thence B2.out b3 (Nat.le_refl _))
        have R2 := Lib.hid r2
        clear r2
        clear b3 B2
        obtain ⟨c0, c1, c2, c3, c4, c5, c6, c7, c8, c9⟩ := BX.out.ten
        have ltBX := BX.out.lt
        obtain ⟨d0, d1, d2, d3, d4, d5, d6, d7, d8, d9⟩ := BY.out.ten
        have ltBY := BY.out.lt
        go_wp2_with fail
        (with_reducible refine (CK.out _).mono ?_)
        rintro e w4 ⟨rfl, b4⟩
        clear c0 c1 c2 c3 c4 c5 c6 c7 c8 c9 d0 d1 d2 d3 d4 d5 d6 d7 d8 d9 ltBX ltBY
        replace BX := Lib.hid (BX.out.here b4)
        replace BY := Lib.hid (BY.out.here b4)
        replace R1 := Lib.hid (R1.out.here b4)
        replace R2 := Lib.hid (R2.out.here b4)
        have B4 := Lib.hid (thence B3.out b4 (Nat.le_refl _))
        clear b4 B3
        obtain ⟨c0, c1, c2, c3, c4, c5, c6, c7, c8, c9⟩ := BX.out.ten
        have ltBX := BX.out.lt
        obtain ⟨d0, d1, d2, d3, d4, d5, d6, d7, d8, d9⟩ := BY.out.ten
        have ltBY := BY.out.lt
        have T1 := fun nq => text_is (w4.drewN nq) _ _ _ _ (R1.out.drewN nq)
        have T2 := fun nq => text_is (w4.drewN nq) _ _ _ _ (R2.out.drewN nq)
        have HS := str_apart R1.out.byt R2.out.byt HNE.out
        go_wp2_with fail
        go_quiet (fail)
        rename_i nq
        have B5 := Lib.hid (below_drewN B4.out nq)
        go_wp2_with fail
        go_ret
        exact ⟨rfl, B5.out⟩
      subst q4
      by_cases q5 : log = log'
      case neg =>
        have n1 : (log == log') = false := beq_eq_false_iff_ne.2 q5
        have CW := Lib.hid (fun w1 => I.yes id ev mem chunk rows log me lost done op w1 HI.out ym)
        have CV := Lib.hid (fun w1 => I.yes id ev mem chunk rows log' me' lost' done' op' w1 HI.out yn)
        have CK : Hid (∀ w1, Calls Try.prog 14 #[.agg #[.int .u32 (id : Int), .int .u32 (ev : Int), .int .i64 mem, .int .i64 chunk, .int .i64 rows, .int .i64 log, .int .i64 me, .int .i64 lost, .int .i64 done, .bool op]] w1 fun e w' => e = .returned (.int .i64 0) ∧ Below w1.heap.size w1 w') := fun w1 => by have := I.check id ev mem chunk rows log me lost done op w1 HI.out; rw [LB.code_yes (LB.may_iff.2 ym)] at this; exact this
        have HNE : Hid (Lab.block ⟨id, ev, mem, chunk, rows, log, me, lost, done, op⟩ ≠ Lab.block ⟨id, ev, mem, chunk, rows, log', me', lost', done', op'⟩) := fun e => by have := (LB.block_inj ym yn HI.out HI.out).1 e; injection this; contradiction
        generalize Lab.block ⟨id, ev, mem, chunk, rows, log, me, lost, done, op⟩ = K at *
        generalize Lab.block ⟨id, ev, mem, chunk, rows, log', me', lost', done', op'⟩ = K' at *
        clear ym yn
        go_enter Try.func8, Try.ntmps8
        go_wp2_with fail
        generalize (w.alloc (.cells #[.int .u32 (id : Int), .int .u32 (ev : Int), .int .i64 mem, .int .i64 chunk, .int .i64 rows, .int .i64 log, .int .i64 me, .int .i64 lost, .int .i64 done, .bool op] 28)).alloc (.cells #[.int .u32 (id : Int), .int .u32 (ev : Int), .int .i64 mem, .int .i64 chunk, .int .i64 rows, .int .i64 log', .int .i64 me', .int .i64 lost', .int .i64 done', .bool op'] 28) = W0 at *
        obtain ⟨c0, c1, c2, c3, c4, c5, c6, c7, c8, c9⟩ := BX.out.ten
        obtain ⟨d0, d1, d2, d3, d4, d5, d6, d7, d8, d9⟩ := BY.out.ten
        have ltBX := BX.out.lt
        have ltBY := BY.out.lt
        (with_reducible refine (CA.out _).mono ?_)
        rintro e w1 ⟨rfl, b1⟩
        clear c0 c1 c2 c3 c4 c5 c6 c7 c8 c9 d0 d1 d2 d3 d4 d5 d6 d7 d8 d9 ltBX ltBY
        replace BX := Lib.hid (BX.out.here b1)
        replace BY := Lib.hid (BY.out.here b1)
        have B1 := Lib.hid (thence B0.out b1 (Nat.le_refl _))
        clear b1 B0
        obtain ⟨c0, c1, c2, c3, c4, c5, c6, c7, c8, c9⟩ := BX.out.ten
        have ltBX := BX.out.lt
        obtain ⟨d0, d1, d2, d3, d4, d5, d6, d7, d8, d9⟩ := BY.out.ten
        have ltBY := BY.out.lt
        go_wp2_with fail
        (with_reducible refine (CW.out _).mono ?_)
        rintro e w2 ⟨a1, k1, rfl, r1, -, b2⟩
        clear c0 c1 c2 c3 c4 c5 c6 c7 c8 c9 d0 d1 d2 d3 d4 d5 d6 d7 d8 d9 ltBX ltBY
        replace BX := Lib.hid (BX.out.here b2)
        replace BY := Lib.hid (BY.out.here b2)
        have B2 := Lib.hid (thence B1.out b2 (Nat.le_refl _))
        have R1 := Lib.hid r1
        clear r1
        clear b2 B1
        obtain ⟨c0, c1, c2, c3, c4, c5, c6, c7, c8, c9⟩ := BX.out.ten
        have ltBX := BX.out.lt
        obtain ⟨d0, d1, d2, d3, d4, d5, d6, d7, d8, d9⟩ := BY.out.ten
        have ltBY := BY.out.lt
        go_wp2_with fail
        (with_reducible refine (CV.out _).mono ?_)
        rintro e w3 ⟨a2, k2, rfl, r2, -, b3⟩
        clear c0 c1 c2 c3 c4 c5 c6 c7 c8 c9 d0 d1 d2 d3 d4 d5 d6 d7 d8 d9 ltBX ltBY
        replace BX := Lib.hid (BX.out.here b3)
        replace BY := Lib.hid (BY.out.here b3)
        replace R1 := Lib.hid (R1.out.here b3)
        have B3 := Lib.hid (thence B2.out b3 (Nat.le_refl _))
        have R2 := Lib.hid r2
        clear r2
        clear b3 B2
        obtain ⟨c0, c1, c2, c3, c4, c5, c6, c7, c8, c9⟩ := BX.out.ten
        have ltBX := BX.out.lt
        obtain ⟨d0, d1, d2, d3, d4, d5, d6, d7, d8, d9⟩ := BY.out.ten
        have ltBY := BY.out.lt
        go_wp2_with fail
        (with_reducible refine (CK.out _).mono ?_)
        rintro e w4 ⟨rfl, b4⟩
        clear c0 c1 c2 c3 c4 c5 c6 c7 c8 c9 d0 d1 d2 d3 d4 d5 d6 d7 d8 d9 ltBX ltBY
        replace BX := Lib.hid (BX.out.here b4)
        replace BY := Lib.hid (BY.out.here b4)
        replace R1 := Lib.hid (R1.out.here b4)
        replace R2 := Lib.hid (R2.out.here b4)
        have B4 := Lib.hid (thence B3.out b4 (Nat.le_refl _))
        clear b4 B3
        obtain ⟨c0, c1, c2, c3, c4, c5, c6, c7, c8, c9⟩ := BX.out.ten
        have ltBX := BX.out.lt
        obtain ⟨d0, d1, d2, d3, d4, d5, d6, d7, d8, d9⟩ := BY.out.ten
        have ltBY := BY.out.lt
        have T1 := fun nq => text_is (w4.drewN nq) _ _ _ _ (R1.out.drewN nq)
        have T2 := fun nq => text_is (w4.drewN nq) _ _ _ _ (R2.out.drewN nq)
        have HS := str_apart R1.out.byt R2.out.byt HNE.out
        go_wp2_with fail
        go_quiet (fail)
        rename_i nq
        have B5 := Lib.hid (below_drewN B4.out nq)
        go_wp2_with fail
        go_ret
        exact ⟨rfl, B5.out⟩
      subst q5
      by_cases q6 : me = me'
      case neg =>
        have n1 : (me == me') = false := beq_eq_false_iff_ne.2 q6
        have CW := Lib.hid (fun w1 => I.yes id ev mem chunk rows log me lost done op w1 HI.out ym)
        have CV := Lib.hid (fun w1 => I.yes id ev mem chunk rows log me' lost' done' op' w1 HI.out yn)
        have CK : Hid (∀ w1, Calls Try.prog 14 #[.agg #[.int .u32 (id : Int), .int .u32 (ev : Int), .int .i64 mem, .int .i64 chunk, .int .i64 rows, .int .i64 log, .int .i64 me, .int .i64 lost, .int .i64 done, .bool op]] w1 fun e w' => e = .returned (.int .i64 0) ∧ Below w1.heap.size w1 w') := fun w1 => by have := I.check id ev mem chunk rows log me lost done op w1 HI.out; rw [LB.code_yes (LB.may_iff.2 ym)] at this; exact this
        have HNE : Hid (Lab.block ⟨id, ev, mem, chunk, rows, log, me, lost, done, op⟩ ≠ Lab.block ⟨id, ev, mem, chunk, rows, log, me', lost', done', op'⟩) := fun e => by have := (LB.block_inj ym yn HI.out HI.out).1 e; injection this; contradiction
        generalize Lab.block ⟨id, ev, mem, chunk, rows, log, me, lost, done, op⟩ = K at *
        generalize Lab.block ⟨id, ev, mem, chunk, rows, log, me', lost', done', op'⟩ = K' at *
        clear ym yn
        go_enter Try.func8, Try.ntmps8
        go_wp2_with fail
        generalize (w.alloc (.cells #[.int .u32 (id : Int), .int .u32 (ev : Int), .int .i64 mem, .int .i64 chunk, .int .i64 rows, .int .i64 log, .int .i64 me, .int .i64 lost, .int .i64 done, .bool op] 28)).alloc (.cells #[.int .u32 (id : Int), .int .u32 (ev : Int), .int .i64 mem, .int .i64 chunk, .int .i64 rows, .int .i64 log, .int .i64 me', .int .i64 lost', .int .i64 done', .bool op'] 28) = W0 at *
        obtain ⟨c0, c1, c2, c3, c4, c5, c6, c7, c8, c9⟩ := BX.out.ten
        obtain ⟨d0, d1, d2, d3, d4, d5, d6, d7, d8, d9⟩ := BY.out.ten
        have ltBX := BX.out.lt
        have ltBY := BY.out.lt
        (with_reducible refine (CA.out _).mono ?_)
        rintro e w1 ⟨rfl, b1⟩
        clear c0 c1 c2 c3 c4 c5 c6 c7 c8 c9 d0 d1 d2 d3 d4 d5 d6 d7 d8 d9 ltBX ltBY
        replace BX := Lib.hid (BX.out.here b1)
        replace BY := Lib.hid (BY.out.here b1)
        have B1 := Lib.hid (thence B0.out b1 (Nat.le_refl _))
        clear b1 B0
        obtain ⟨c0, c1, c2, c3, c4, c5, c6, c7, c8, c9⟩ := BX.out.ten
        have ltBX := BX.out.lt
        obtain ⟨d0, d1, d2, d3, d4, d5, d6, d7, d8, d9⟩ := BY.out.ten
        have ltBY := BY.out.lt
        go_wp2_with fail
        (with_reducible refine (CW.out _).mono ?_)
        rintro e w2 ⟨a1, k1, rfl, r1, -, b2⟩
        clear c0 c1 c2 c3 c4 c5 c6 c7 c8 c9 d0 d1 d2 d3 d4 d5 d6 d7 d8 d9 ltBX ltBY
        replace BX := Lib.hid (BX.out.here b2)
        replace BY := Lib.hid (BY.out.here b2)
        have B2 := Lib.hid (thence B1.out b2 (Nat.le_refl _))
        have R1 := Lib.hid r1
        clear r1
        clear b2 B1
        obtain ⟨c0, c1, c2, c3, c4, c5, c6, c7, c8, c9⟩ := BX.out.ten
        have ltBX := BX.out.lt
        obtain ⟨d0, d1, d2, d3, d4, d5, d6, d7, d8, d9⟩ := BY.out.ten
        have ltBY := BY.out.lt
        go_wp2_with fail
        (with_reducible refine (CV.out _).mono ?_)
        rintro e w3 ⟨a2, k2, rfl, r2, -, b3⟩
        clear c0 c1 c2 c3 c4 c5 c6 c7 c8 c9 d0 d1 d2 d3 d4 d5 d6 d7 d8 d9 ltBX ltBY
        replace BX := Lib.hid (BX.out.here b3)
        replace BY := Lib.hid (BY.out.here b3)
        replace R1 := Lib.hid (R1.out.here b3)
        have B3 := Lib.hid (thence B2.out b3 (Nat.le_refl _))
        have R2 := Lib.hid r2
        clear r2
        clear b3 B2
        obtain ⟨c0, c1, c2, c3, c4, c5, c6, c7, c8, c9⟩ := BX.out.ten
        have ltBX := BX.out.lt
        obtain ⟨d0, d1, d2, d3, d4, d5, d6, d7, d8, d9⟩ := BY.out.ten
        have ltBY := BY.out.lt
        go_wp2_with fail
        (with_reducible refine (CK.out _).mono ?_)
        rintro e w4 ⟨rfl, b4⟩
        clear c0 c1 c2 c3 c4 c5 c6 c7 c8 c9 d0 d1 d2 d3 d4 d5 d6 d7 d8 d9 ltBX ltBY
        replace BX := Lib.hid (BX.out.here b4)
        replace BY := Lib.hid (BY.out.here b4)
        replace R1 := Lib.hid (R1.out.here b4)
        replace R2 := Lib.hid (R2.out.here b4)
        have B4 := Lib.hid (thence B3.out b4 (Nat.le_refl _))
        clear b4 B3
        obtain ⟨c0, c1, c2, c3, c4, c5, c6, c7, c8, c9⟩ := BX.out.ten
        have ltBX := BX.out.lt
        obtain ⟨d0, d1, d2, d3, d4, d5, d6, d7, d8, d9⟩ := BY.out.ten
        have ltBY := BY.out.lt
        have T1 := fun nq => text_is (w4.drewN nq) _ _ _ _ (R1.out.drewN nq)
        have T2 := fun nq => text_is (w4.drewN nq) _ _ _ _ (R2.out.drewN nq)
        have HS := str_apart R1.out.byt R2.out.byt HNE.out
        go_wp2_with fail
        go_quiet (fail)
        rename_i nq
        have B5 := Lib.hid (below_drewN B4.out nq)
        go_wp2_with fail
        go_ret
        exact ⟨rfl, B5.out⟩
      subst q6
      by_cases q7 : lost = lost'
      case neg =>
        have n1 : (lost == lost') = false := beq_eq_false_iff_ne.2 q7
        have CW := Lib.hid (fun w1 => I.yes id ev mem chunk rows log me lost done op w1 HI.out ym)
        have CV := Lib.hid (fun w1 => I.yes id ev mem chunk rows log me lost' done' op' w1 HI.out yn)
        have CK : Hid (∀ w1, Calls Try.prog 14 #[.agg #[.int .u32 (id : Int), .int .u32 (ev : Int), .int .i64 mem, .int .i64 chunk, .int .i64 rows, .int .i64 log, .int .i64 me, .int .i64 lost, .int .i64 done, .bool op]] w1 fun e w' => e = .returned (.int .i64 0) ∧ Below w1.heap.size w1 w') := fun w1 => by have := I.check id ev mem chunk rows log me lost done op w1 HI.out; rw [LB.code_yes (LB.may_iff.2 ym)] at this; exact this
        have HNE : Hid (Lab.block ⟨id, ev, mem, chunk, rows, log, me, lost, done, op⟩ ≠ Lab.block ⟨id, ev, mem, chunk, rows, log, me, lost', done', op'⟩) := fun e => by have := (LB.block_inj ym yn HI.out HI.out).1 e; injection this; contradiction
        generalize Lab.block ⟨id, ev, mem, chunk, rows, log, me, lost, done, op⟩ = K at *
        generalize Lab.block ⟨id, ev, mem, chunk, rows, log, me, lost', done', op'⟩ = K' at *
        clear ym yn
        go_enter Try.func8, Try.ntmps8
        go_wp2_with fail
        generalize (w.alloc (.cells #[.int .u32 (id : Int), .int .u32 (ev : Int), .int .i64 mem, .int .i64 chunk, .int .i64 rows, .int .i64 log, .int .i64 me, .int .i64 lost, .int .i64 done, .bool op] 28)).alloc (.cells #[.int .u32 (id : Int), .int .u32 (ev : Int), .int .i64 mem, .int .i64 chunk, .int .i64 rows, .int .i64 log, .int .i64 me, .int .i64 lost', .int .i64 done', .bool op'] 28) = W0 at *
        obtain ⟨c0, c1, c2, c3, c4, c5, c6, c7, c8, c9⟩ := BX.out.ten
        obtain ⟨d0, d1, d2, d3, d4, d5, d6, d7, d8, d9⟩ := BY.out.ten
        have ltBX := BX.out.lt
        have ltBY := BY.out.lt
        (with_reducible refine (CA.out _).mono ?_)
        rintro e w1 ⟨rfl, b1⟩
        clear c0 c1 c2 c3 c4 c5 c6 c7 c8 c9 d0 d1 d2 d3 d4 d5 d6 d7 d8 d9 ltBX ltBY
        replace BX := Lib.hid (BX.out.here b1)
        replace BY := Lib.hid (BY.out.here b1)
        have B1 := Lib.hid (thence B0.out b1 (Nat.le_refl _))
        clear b1 B0
        obtain ⟨c0, c1, c2, c3, c4, c5, c6, c7, c8, c9⟩ := BX.out.ten
        have ltBX := BX.out.lt
        obtain ⟨d0, d1, d2, d3, d4, d5, d6, d7, d8, d9⟩ := BY.out.ten
        have ltBY := BY.out.lt
        go_wp2_with fail
        (with_reducible refine (CW.out _).mono ?_)
        rintro e w2 ⟨a1, k1, rfl, r1, -, b2⟩
        clear c0 c1 c2 c3 c4 c5 c6 c7 c8 c9 d0 d1 d2 d3 d4 d5 d6 d7 d8 d9 ltBX ltBY
        replace BX := Lib.hid (BX.out.here b2)
        replace BY := Lib.hid (BY.out.here b2)
        have B2 := Lib.hid (thence B1.out b2 (Nat.le_refl _))
        have R1 := Lib.hid r1
        clear r1
        clear b2 B1
        obtain ⟨c0, c1, c2, c3, c4, c5, c6, c7, c8, c9⟩ := BX.out.ten
        have ltBX := BX.out.lt
        obtain ⟨d0, d1, d2, d3, d4, d5, d6, d7, d8, d9⟩ := BY.out.ten
        have ltBY := BY.out.lt
        go_wp2_with fail
        (with_reducible refine (CV.out _).mono ?_)
        rintro e w3 ⟨a2, k2, rfl, r2, -, b3⟩
        clear c0 c1 c2 c3 c4 c5 c6 c7 c8 c9 d0 d1 d2 d3 d4 d5 d6 d7 d8 d9 ltBX ltBY
        replace BX := Lib.hid (BX.out.here b3)
        replace BY := Lib.hid (BY.out.here b3)
        replace R1 := Lib.hid (R1.out.here b3)
        have B3 := Lib.hid (thence B2.out b3 (Nat.le_refl _))
        have R2 := Lib.hid r2
        clear r2
        clear b3 B2
        obtain ⟨c0, c1, c2, c3, c4, c5, c6, c7, c8, c9⟩ := BX.out.ten
        have ltBX := BX.out.lt
        obtain ⟨d0, d1, d2, d3, d4, d5, d6, d7, d8, d9⟩ := BY.out.ten
        have ltBY := BY.out.lt
        go_wp2_with fail
        (with_reducible refine (CK.out _).mono ?_)
        rintro e w4 ⟨rfl, b4⟩
        clear c0 c1 c2 c3 c4 c5 c6 c7 c8 c9 d0 d1 d2 d3 d4 d5 d6 d7 d8 d9 ltBX ltBY
        replace BX := Lib.hid (BX.out.here b4)
        replace BY := Lib.hid (BY.out.here b4)
        replace R1 := Lib.hid (R1.out.here b4)
        replace R2 := Lib.hid (R2.out.here b4)
        have B4 := Lib.hid (thence B3.out b4 (Nat.le_refl _))
        clear b4 B3
        obtain ⟨c0, c1, c2, c3, c4, c5, c6, c7, c8, c9⟩ := BX.out.ten
        have ltBX := BX.out.lt
        obtain ⟨d0, d1, d2, d3, d4, d5, d6, d7, d8, d9⟩ := BY.out.ten
        have ltBY := BY.out.lt
        have T1 := fun nq => text_is (w4.drewN nq) _ _ _ _ (R1.out.drewN nq)
        have T2 := fun nq => text_is (w4.drewN nq) _ _ _ _ (R2.out.drewN nq)
        have HS := str_apart R1.out.byt R2.out.byt HNE.out
        go_wp2_with fail
        go_quiet (fail)
        rename_i nq
        have B5 := Lib.hid (below_drewN B4.out nq)
        go_wp2_with fail
        go_ret
        exact ⟨rfl, B5.out⟩
      subst q7
      by_cases q8 : done = done'
      case neg =>
        have n1 : (done == done') = false := beq_eq_false_iff_ne.2 q8
        have CW := Lib.hid (fun w1 => I.yes id ev mem chunk rows log me lost done op w1 HI.out ym)
        have CV := Lib.hid (fun w1 => I.yes id ev mem chunk rows log me lost done' op' w1 HI.out yn)
        have CK : Hid (∀ w1, Calls Try.prog 14 #[.agg #[.int .u32 (id : Int), .int .u32 (ev : Int), .int .i64 mem, .int .i64 chunk, .int .i64 rows, .int .i64 log, .int .i64 me, .int .i64 lost, .int .i64 done, .bool op]] w1 fun e w' => e = .returned (.int .i64 0) ∧ Below w1.heap.size w1 w') := fun w1 => by have := I.check id ev mem chunk rows log me lost done op w1 HI.out; rw [LB.code_yes (LB.may_iff.2 ym)] at this; exact this
        have HNE : Hid (Lab.block ⟨id, ev, mem, chunk, rows, log, me, lost, done, op⟩ ≠ Lab.block ⟨id, ev, mem, chunk, rows, log, me, lost, done', op'⟩) := fun e => by have := (LB.block_inj ym yn HI.out HI.out).1 e; injection this; contradiction
        generalize Lab.block ⟨id, ev, mem, chunk, rows, log, me, lost, done, op⟩ = K at *
        generalize Lab.block ⟨id, ev, mem, chunk, rows, log, me, lost, done', op'⟩ = K' at *
        clear ym yn
        go_enter Try.func8, Try.ntmps8
        go_wp2_with fail
        generalize (w.alloc (.cells #[.int .u32 (id : Int), .int .u32 (ev : Int), .int .i64 mem, .int .i64 chunk, .int .i64 rows, .int .i64 log, .int .i64 me, .int .i64 lost, .int .i64 done, .bool op] 28)).alloc (.cells #[.int .u32 (id : Int), .int .u32 (ev : Int), .int .i64 mem, .int .i64 chunk, .int .i64 rows, .int .i64 log, .int .i64 me, .int .i64 lost, .int .i64 done', .bool op'] 28) = W0 at *
        obtain ⟨c0, c1, c2, c3, c4, c5, c6, c7, c8, c9⟩ := BX.out.ten
        obtain ⟨d0, d1, d2, d3, d4, d5, d6, d7, d8, d9⟩ := BY.out.ten
        have ltBX := BX.out.lt
        have ltBY := BY.out.lt
        (with_reducible refine (CA.out _).mono ?_)
        rintro e w1 ⟨rfl, b1⟩
        clear c0 c1 c2 c3 c4 c5 c6 c7 c8 c9 d0 d1 d2 d3 d4 d5 d6 d7 d8 d9 ltBX ltBY
        replace BX := Lib.hid (BX.out.here b1)
        replace BY := Lib.hid (BY.out.here b1)
        have B1 := Lib.hid (thence B0.out b1 (Nat.le_refl _))
        clear b1 B0
        obtain ⟨c0, c1, c2, c3, c4, c5, c6, c7, c8, c9⟩ := BX.out.ten
        have ltBX := BX.out.lt
        obtain ⟨d0, d1, d2, d3, d4, d5, d6, d7, d8, d9⟩ := BY.out.ten
        have ltBY := BY.out.lt
        go_wp2_with fail
        (with_reducible refine (CW.out _).mono ?_)
        rintro e w2 ⟨a1, k1, rfl, r1, -, b2⟩
        clear c0 c1 c2 c3 c4 c5 c6 c7 c8 c9 d0 d1 d2 d3 d4 d5 d6 d7 d8 d9 ltBX ltBY
        replace BX := Lib.hid (BX.out.here b2)
        replace BY := Lib.hid (BY.out.here b2)
        have B2 := Lib.hid (thence B1.out b2 (Nat.le_refl _))
        have R1 := Lib.hid r1
        clear r1
        clear b2 B1
        obtain ⟨c0, c1, c2, c3, c4, c5, c6, c7, c8, c9⟩ := BX.out.ten
        have ltBX := BX.out.lt
        obtain ⟨d0, d1, d2, d3, d4, d5, d6, d7, d8, d9⟩ := BY.out.ten
        have ltBY := BY.out.lt
        go_wp2_with fail
        (with_reducible refine (CV.out _).mono ?_)
        rintro e w3 ⟨a2, k2, rfl, r2, -, b3⟩
        clear c0 c1 c2 c3 c4 c5 c6 c7 c8 c9 d0 d1 d2 d3 d4 d5 d6 d7 d8 d9 ltBX ltBY
        replace BX := Lib.hid (BX.out.here b3)
        replace BY := Lib.hid (BY.out.here b3)
        replace R1 := Lib.hid (R1.out.here b3)
        have B3 := Lib.hid (thence B2.out b3 (Nat.le_refl _))
        have R2 := Lib.hid r2
        clear r2
        clear b3 B2
        obtain ⟨c0, c1, c2, c3, c4, c5, c6, c7, c8, c9⟩ := BX.out.ten
        have ltBX := BX.out.lt
        obtain ⟨d0, d1, d2, d3, d4, d5, d6, d7, d8, d9⟩ := BY.out.ten
        have ltBY := BY.out.lt
        go_wp2_with fail
        (with_reducible refine (CK.out _).mono ?_)
        rintro e w4 ⟨rfl, b4⟩
        clear c0 c1 c2 c3 c4 c5 c6 c7 c8 c9 d0 d1 d2 d3 d4 d5 d6 d7 d8 d9 ltBX ltBY
        replace BX := Lib.hid (BX.out.here b4)
        replace BY := Lib.hid (BY.out.here b4)
        replace R1 := Lib.hid (R1.out.here b4)
        replace R2 := Lib.hid (R2.out.here b4)
        have B4 := Lib.hid (thence B3.out b4 (Nat.le_refl _))
        clear b4 B3
        obtain ⟨c0, c1, c2, c3, c4, c5, c6, c7, c8, c9⟩ := BX.out.ten
        have ltBX := BX.out.lt
        obtain ⟨d0, d1, d2, d3, d4, d5, d6, d7, d8, d9⟩ := BY.out.ten
        have ltBY := BY.out.lt
        have T1 := fun nq => text_is (w4.drewN nq) _ _ _ _ (R1.out.drewN nq)
        have T2 := fun nq => text_is (w4.drewN nq) _ _ _ _ (R2.out.drewN nq)
        have HS := str_apart R1.out.byt R2.out.byt HNE.out
        go_wp2_with fail
        go_quiet (fail)
        rename_i nq
        have B5 := Lib.hid (below_drewN B4.out nq)
        go_wp2_with fail
        go_ret
        exact ⟨rfl, B5.out⟩
      subst q8
      by_cases q9 : op = op'
      case neg =>
        have n1 : (op == op') = false := beq_eq_false_iff_ne.2 q9
        have CW := Lib.hid (fun w1 => I.yes id ev mem chunk rows log me lost done op w1 HI.out ym)
        have CV := Lib.hid (fun w1 => I.yes id ev mem chunk rows log me lost done op' w1 HI.out yn)
        have CK : Hid (∀ w1, Calls Try.prog 14 #[.agg #[.int .u32 (id : Int), .int .u32 (ev : Int), .int .i64 mem, .int .i64 chunk, .int .i64 rows, .int .i64 log, .int .i64 me, .int .i64 lost, .int .i64 done, .bool op]] w1 fun e w' => e = .returned (.int .i64 0) ∧ Below w1.heap.size w1 w') := fun w1 => by have := I.check id ev mem chunk rows log me lost done op w1 HI.out; rw [LB.code_yes (LB.may_iff.2 ym)] at this; exact this
        have HNE : Hid (Lab.block ⟨id, ev, mem, chunk, rows, log, me, lost, done, op⟩ ≠ Lab.block ⟨id, ev, mem, chunk, rows, log, me, lost, done, op'⟩) := fun e => by have := (LB.block_inj ym yn HI.out HI.out).1 e; injection this; contradiction
        generalize Lab.block ⟨id, ev, mem, chunk, rows, log, me, lost, done, op⟩ = K at *
        generalize Lab.block ⟨id, ev, mem, chunk, rows, log, me, lost, done, op'⟩ = K' at *
        clear ym yn
        go_enter Try.func8, Try.ntmps8
        go_wp2_with fail
        generalize (w.alloc (.cells #[.int .u32 (id : Int), .int .u32 (ev : Int), .int .i64 mem, .int .i64 chunk, .int .i64 rows, .int .i64 log, .int .i64 me, .int .i64 lost, .int .i64 done, .bool op] 28)).alloc (.cells #[.int .u32 (id : Int), .int .u32 (ev : Int), .int .i64 mem, .int .i64 chunk, .int .i64 rows, .int .i64 log, .int .i64 me, .int .i64 lost, .int .i64 done, .bool op'] 28) = W0 at *
        obtain ⟨c0, c1, c2, c3, c4, c5, c6, c7, c8, c9⟩ := BX.out.ten
        obtain ⟨d0, d1, d2, d3, d4, d5, d6, d7, d8, d9⟩ := BY.out.ten
        have ltBX := BX.out.lt
        have ltBY := BY.out.lt
        (with_reducible refine (CA.out _).mono ?_)
        rintro e w1 ⟨rfl, b1⟩
        clear c0 c1 c2 c3 c4 c5 c6 c7 c8 c9 d0 d1 d2 d3 d4 d5 d6 d7 d8 d9 ltBX ltBY
        replace BX := Lib.hid (BX.out.here b1)
        replace BY := Lib.hid (BY.out.here b1)
        have B1 := Lib.hid (thence B0.out b1 (Nat.le_refl _))
        clear b1 B0
        obtain ⟨c0, c1, c2, c3, c4, c5, c6, c7, c8, c9⟩ := BX.out.ten
        have ltBX := BX.out.lt
        obtain ⟨d0, d1, d2, d3, d4, d5, d6, d7, d8, d9⟩ := BY.out.ten
        have ltBY := BY.out.lt
        go_wp2_with fail
        (with_reducible refine (CW.out _).mono ?_)
        rintro e w2 ⟨a1, k1, rfl, r1, -, b2⟩
        clear c0 c1 c2 c3 c4 c5 c6 c7 c8 c9 d0 d1 d2 d3 d4 d5 d6 d7 d8 d9 ltBX ltBY
        replace BX := Lib.hid (BX.out.here b2)
        replace BY := Lib.hid (BY.out.here b2)
        have B2 := Lib.hid (thence B1.out b2 (Nat.le_refl _))
        have R1 := Lib.hid r1
        clear r1
        clear b2 B1
        obtain ⟨c0, c1, c2, c3, c4, c5, c6, c7, c8, c9⟩ := BX.out.ten
        have ltBX := BX.out.lt
        obtain ⟨d0, d1, d2, d3, d4, d5, d6, d7, d8, d9⟩ := BY.out.ten
        have ltBY := BY.out.lt
        go_wp2_with fail
        (with_reducible refine (CV.out _).mono ?_)
        rintro e w3 ⟨a2, k2, rfl, r2, -, b3⟩
        clear c0 c1 c2 c3 c4 c5 c6 c7 c8 c9 d0 d1 d2 d3 d4 d5 d6 d7 d8 d9 ltBX ltBY
        replace BX := Lib.hid (BX.out.here b3)
        replace BY := Lib.hid (BY.out.here b3)
        replace R1 := Lib.hid (R1.out.here b3)
        have B3 := Lib.hid (thence B2.out b3 (Nat.le_refl _))
        have R2 := Lib.hid r2
        clear r2
        clear b3 B2
        obtain ⟨c0, c1, c2, c3, c4, c5, c6, c7, c8, c9⟩ := BX.out.ten
        have ltBX := BX.out.lt
        obtain ⟨d0, d1, d2, d3, d4, d5, d6, d7, d8, d9⟩ := BY.out.ten
        have ltBY := BY.out.lt
        go_wp2_with fail
        (with_reducible refine (CK.out _).mono ?_)
        rintro e w4 ⟨rfl, b4⟩
        clear c0 c1 c2 c3 c4 c5 c6 c7 c8 c9 d0 d1 d2 d3 d4 d5 d6 d7 d8 d9 ltBX ltBY
        replace BX := Lib.hid (BX.out.here b4)
        replace BY := Lib.hid (BY.out.here b4)
        replace R1 := Lib.hid (R1.out.here b4)
        replace R2 := Lib.hid (R2.out.here b4)
        have B4 := Lib.hid (thence B3.out b4 (Nat.le_refl _))
        clear b4 B3
        obtain ⟨c0, c1, c2, c3, c4, c5, c6, c7, c8, c9⟩ := BX.out.ten
        have ltBX := BX.out.lt
        obtain ⟨d0, d1, d2, d3, d4, d5, d6, d7, d8, d9⟩ := BY.out.ten
        have ltBY := BY.out.lt
        have T1 := fun nq => text_is (w4.drewN nq) _ _ _ _ (R1.out.drewN nq)
        have T2 := fun nq => text_is (w4.drewN nq) _ _ _ _ (R2.out.drewN nq)
        have HS := str_apart R1.out.byt R2.out.byt HNE.out
        go_wp2_with fail
        go_quiet (fail)
        rename_i nq
        have B5 := Lib.hid (below_drewN B4.out nq)
        go_wp2_with fail
        go_ret
        exact ⟨rfl, B5.out⟩
      subst q9
      have CW := Lib.hid (fun w1 => I.yes id ev mem chunk rows log me lost done op w1 HI.out ym)
      have CV := Lib.hid (fun w1 => I.yes id ev mem chunk rows log me lost done op w1 HI.out yn)
      have CK : Hid (∀ w1, Calls Try.prog 14 #[.agg #[.int .u32 (id : Int), .int .u32 (ev : Int), .int .i64 mem, .int .i64 chunk, .int .i64 rows, .int .i64 log, .int .i64 me, .int .i64 lost, .int .i64 done, .bool op]] w1 fun e w' => e = .returned (.int .i64 0) ∧ Below w1.heap.size w1 w') := fun w1 => by have := I.check id ev mem chunk rows log me lost done op w1 HI.out; rw [LB.code_yes (LB.may_iff.2 ym)] at this; exact this
      generalize Lab.block ⟨id, ev, mem, chunk, rows, log, me, lost, done, op⟩ = K at *
      clear ym yn
      go_enter Try.func8, Try.ntmps8
      go_wp2_with fail
      generalize (w.alloc (.cells #[.int .u32 (id : Int), .int .u32 (ev : Int), .int .i64 mem, .int .i64 chunk, .int .i64 rows, .int .i64 log, .int .i64 me, .int .i64 lost, .int .i64 done, .bool op] 28)).alloc (.cells #[.int .u32 (id : Int), .int .u32 (ev : Int), .int .i64 mem, .int .i64 chunk, .int .i64 rows, .int .i64 log, .int .i64 me, .int .i64 lost, .int .i64 done, .bool op] 28) = W0 at *
      obtain ⟨c0, c1, c2, c3, c4, c5, c6, c7, c8, c9⟩ := BX.out.ten
      obtain ⟨d0, d1, d2, d3, d4, d5, d6, d7, d8, d9⟩ := BY.out.ten
      have ltBX := BX.out.lt
      have ltBY := BY.out.lt
      (with_reducible refine (CA.out _).mono ?_)
      rintro e w1 ⟨rfl, b1⟩
      clear c0 c1 c2 c3 c4 c5 c6 c7 c8 c9 d0 d1 d2 d3 d4 d5 d6 d7 d8 d9 ltBX ltBY
      replace BX := Lib.hid (BX.out.here b1)
      replace BY := Lib.hid (BY.out.here b1)
      have B1 := Lib.hid (thence B0.out b1 (Nat.le_refl _))
      clear b1 B0
      obtain ⟨c0, c1, c2, c3, c4, c5, c6, c7, c8, c9⟩ := BX.out.ten
      have ltBX := BX.out.lt
      obtain ⟨d0, d1, d2, d3, d4, d5, d6, d7, d8, d9⟩ := BY.out.ten
      have ltBY := BY.out.lt
      go_wp2_with fail
      (with_reducible refine (CW.out _).mono ?_)
      rintro e w2 ⟨a1, k1, rfl, r1, -, b2⟩
      clear c0 c1 c2 c3 c4 c5 c6 c7 c8 c9 d0 d1 d2 d3 d4 d5 d6 d7 d8 d9 ltBX ltBY
      replace BX := Lib.hid (BX.out.here b2)
      replace BY := Lib.hid (BY.out.here b2)
      have B2 := Lib.hid (thence B1.out b2 (Nat.le_refl _))
      have R1 := Lib.hid r1
      clear r1
      clear b2 B1
      obtain ⟨c0, c1, c2, c3, c4, c5, c6, c7, c8, c9⟩ := BX.out.ten
      have ltBX := BX.out.lt
      obtain ⟨d0, d1, d2, d3, d4, d5, d6, d7, d8, d9⟩ := BY.out.ten
      have ltBY := BY.out.lt
      go_wp2_with fail
      (with_reducible refine (CV.out _).mono ?_)
      rintro e w3 ⟨a2, k2, rfl, r2, -, b3⟩
      clear c0 c1 c2 c3 c4 c5 c6 c7 c8 c9 d0 d1 d2 d3 d4 d5 d6 d7 d8 d9 ltBX ltBY
      replace BX := Lib.hid (BX.out.here b3)
      replace BY := Lib.hid (BY.out.here b3)
      replace R1 := Lib.hid (R1.out.here b3)
      have B3 := Lib.hid (thence B2.out b3 (Nat.le_refl _))
      have R2 := Lib.hid r2
      clear r2
      clear b3 B2
      obtain ⟨c0, c1, c2, c3, c4, c5, c6, c7, c8, c9⟩ := BX.out.ten
      have ltBX := BX.out.lt
      obtain ⟨d0, d1, d2, d3, d4, d5, d6, d7, d8, d9⟩ := BY.out.ten
      have ltBY := BY.out.lt
      go_wp2_with fail
      (with_reducible refine (CK.out _).mono ?_)
      rintro e w4 ⟨rfl, b4⟩
      clear c0 c1 c2 c3 c4 c5 c6 c7 c8 c9 d0 d1 d2 d3 d4 d5 d6 d7 d8 d9 ltBX ltBY
      replace BX := Lib.hid (BX.out.here b4)
      replace BY := Lib.hid (BY.out.here b4)
      replace R1 := Lib.hid (R1.out.here b4)
      replace R2 := Lib.hid (R2.out.here b4)
      have B4 := Lib.hid (thence B3.out b4 (Nat.le_refl _))
      clear b4 B3
      obtain ⟨c0, c1, c2, c3, c4, c5, c6, c7, c8, c9⟩ := BX.out.ten
      have ltBX := BX.out.lt
      obtain ⟨d0, d1, d2, d3, d4, d5, d6, d7, d8, d9⟩ := BY.out.ten
      have ltBY := BY.out.lt
      have T1 := fun nq => text_is (w4.drewN nq) _ _ _ _ (R1.out.drewN nq)
      have T2 := fun nq => text_is (w4.drewN nq) _ _ _ _ (R2.out.drewN nq)
      go_wp2_with fail
      go_quiet (fail)
      rename_i nq
      have B5 := Lib.hid (below_drewN B4.out nq)
      go_wp2_with fail
      go_ret
      exact ⟨rfl, B5.out⟩
    | false =>
      have CW := Lib.hid (fun w1 => I.yes id ev mem chunk rows log me lost done op w1 HI.out (LB.may_iff.1 hm))
      have CV := Lib.hid (fun w1 => I.no id' ev' mem' chunk' rows' log' me' lost' done' op' w1 HJ.out hn)
      have CK : Hid (∀ w1, Calls Try.prog 14 #[.agg #[.int .u32 (id : Int), .int .u32 (ev : Int), .int .i64 mem, .int .i64 chunk, .int .i64 rows, .int .i64 log, .int .i64 me, .int .i64 lost, .int .i64 done, .bool op]] w1 fun e w' => e = .returned (.int .i64 0) ∧ Below w1.heap.size w1 w') := fun w1 => by have := I.check id ev mem chunk rows log me lost done op w1 HI.out; rw [LB.code_yes hm] at this; exact this
      clear hm hn
      go_enter Try.func8, Try.ntmps8
      go_wp2_with fail
      generalize (w.alloc (.cells #[.int .u32 (id : Int), .int .u32 (ev : Int), .int .i64 mem, .int .i64 chunk, .int .i64 rows, .int .i64 log, .int .i64 me, .int .i64 lost, .int .i64 done, .bool op] 28)).alloc (.cells #[.int .u32 (id' : Int), .int .u32 (ev' : Int), .int .i64 mem', .int .i64 chunk', .int .i64 rows', .int .i64 log', .int .i64 me', .int .i64 lost', .int .i64 done', .bool op'] 28) = W0 at *
      obtain ⟨c0, c1, c2, c3, c4, c5, c6, c7, c8, c9⟩ := BX.out.ten
      obtain ⟨d0, d1, d2, d3, d4, d5, d6, d7, d8, d9⟩ := BY.out.ten
      have ltBX := BX.out.lt
      have ltBY := BY.out.lt
      (with_reducible refine (CA.out _).mono ?_)
      rintro e w1 ⟨rfl, b1⟩
      clear c0 c1 c2 c3 c4 c5 c6 c7 c8 c9 d0 d1 d2 d3 d4 d5 d6 d7 d8 d9 ltBX ltBY
      replace BX := Lib.hid (BX.out.here b1)
      replace BY := Lib.hid (BY.out.here b1)
      have B1 := Lib.hid (thence B0.out b1 (Nat.le_refl _))
      clear b1 B0
      obtain ⟨c0, c1, c2, c3, c4, c5, c6, c7, c8, c9⟩ := BX.out.ten
      have ltBX := BX.out.lt
      obtain ⟨d0, d1, d2, d3, d4, d5, d6, d7, d8, d9⟩ := BY.out.ten
      have ltBY := BY.out.lt
      go_wp2_with fail
      (with_reducible refine (CW.out _).mono ?_)
      rintro e w2 ⟨a1, k1, rfl, r1, -, b2⟩
      clear c0 c1 c2 c3 c4 c5 c6 c7 c8 c9 d0 d1 d2 d3 d4 d5 d6 d7 d8 d9 ltBX ltBY
      replace BX := Lib.hid (BX.out.here b2)
      replace BY := Lib.hid (BY.out.here b2)
      have B2 := Lib.hid (thence B1.out b2 (Nat.le_refl _))
      have R1 := Lib.hid r1
      clear r1
      clear b2 B1
      obtain ⟨c0, c1, c2, c3, c4, c5, c6, c7, c8, c9⟩ := BX.out.ten
      have ltBX := BX.out.lt
      obtain ⟨d0, d1, d2, d3, d4, d5, d6, d7, d8, d9⟩ := BY.out.ten
      have ltBY := BY.out.lt
      go_wp2_with fail
      (with_reducible refine (CV.out _).mono ?_)
      rintro e w3 ⟨a2, k2, rfl, r2, b3⟩
      clear c0 c1 c2 c3 c4 c5 c6 c7 c8 c9 d0 d1 d2 d3 d4 d5 d6 d7 d8 d9 ltBX ltBY
      replace BX := Lib.hid (BX.out.here b3)
      replace BY := Lib.hid (BY.out.here b3)
      replace R1 := Lib.hid (R1.out.here b3)
      have B3 := Lib.hid (thence B2.out b3 (Nat.le_refl _))
      have R2 := Lib.hid r2
      clear r2
      clear b3 B2
      obtain ⟨c0, c1, c2, c3, c4, c5, c6, c7, c8, c9⟩ := BX.out.ten
      have ltBX := BX.out.lt
      obtain ⟨d0, d1, d2, d3, d4, d5, d6, d7, d8, d9⟩ := BY.out.ten
      have ltBY := BY.out.lt
      go_wp2_with fail
      (with_reducible refine (CK.out _).mono ?_)
      rintro e w4 ⟨rfl, b4⟩
      clear c0 c1 c2 c3 c4 c5 c6 c7 c8 c9 d0 d1 d2 d3 d4 d5 d6 d7 d8 d9 ltBX ltBY
      replace BX := Lib.hid (BX.out.here b4)
      replace BY := Lib.hid (BY.out.here b4)
      replace R1 := Lib.hid (R1.out.here b4)
      replace R2 := Lib.hid (R2.out.here b4)
      have B4 := Lib.hid (thence B3.out b4 (Nat.le_refl _))
      clear b4 B3
      obtain ⟨c0, c1, c2, c3, c4, c5, c6, c7, c8, c9⟩ := BX.out.ten
      have ltBX := BX.out.lt
      obtain ⟨d0, d1, d2, d3, d4, d5, d6, d7, d8, d9⟩ := BY.out.ten
      have ltBY := BY.out.lt
      go_wp2_with fail
      go_quiet (fail)
      rename_i nq
      have B5 := Lib.hid (below_drewN B4.out nq)
      go_wp2_with fail
      go_ret
      exact ⟨rfl, B5.out⟩
  | false =>
    cases hn : Lab.may ⟨id', ev', mem', chunk', rows', log', me', lost', done', op'⟩ with
    | true =>
      have CW := Lib.hid (fun w1 => I.no id ev mem chunk rows log me lost done op w1 HI.out hm)
      have CV := Lib.hid (fun w1 => I.yes id' ev' mem' chunk' rows' log' me' lost' done' op' w1 HJ.out (LB.may_iff.1 hn))
      have CK : Hid (∀ w1, Calls Try.prog 14 #[.agg #[.int .u32 (id : Int), .int .u32 (ev : Int), .int .i64 mem, .int .i64 chunk, .int .i64 rows, .int .i64 log, .int .i64 me, .int .i64 lost, .int .i64 done, .bool op]] w1 fun e w' => e = .returned (.int .i64 8) ∧ Below w1.heap.size w1 w') := fun w1 => by have := I.check id ev mem chunk rows log me lost done op w1 HI.out; rw [LB.code_no hm] at this; exact this
      clear hm hn
      go_enter Try.func8, Try.ntmps8
      go_wp2_with fail
      generalize (w.alloc (.cells #[.int .u32 (id : Int), .int .u32 (ev : Int), .int .i64 mem, .int .i64 chunk, .int .i64 rows, .int .i64 log, .int .i64 me, .int .i64 lost, .int .i64 done, .bool op] 28)).alloc (.cells #[.int .u32 (id' : Int), .int .u32 (ev' : Int), .int .i64 mem', .int .i64 chunk', .int .i64 rows', .int .i64 log', .int .i64 me', .int .i64 lost', .int .i64 done', .bool op'] 28) = W0 at *
      obtain ⟨c0, c1, c2, c3, c4, c5, c6, c7, c8, c9⟩ := BX.out.ten
      obtain ⟨d0, d1, d2, d3, d4, d5, d6, d7, d8, d9⟩ := BY.out.ten
      have ltBX := BX.out.lt
      have ltBY := BY.out.lt
      (with_reducible refine (CA.out _).mono ?_)
      rintro e w1 ⟨rfl, b1⟩
      clear c0 c1 c2 c3 c4 c5 c6 c7 c8 c9 d0 d1 d2 d3 d4 d5 d6 d7 d8 d9 ltBX ltBY
      replace BX := Lib.hid (BX.out.here b1)
      replace BY := Lib.hid (BY.out.here b1)
      have B1 := Lib.hid (thence B0.out b1 (Nat.le_refl _))
      clear b1 B0
      obtain ⟨c0, c1, c2, c3, c4, c5, c6, c7, c8, c9⟩ := BX.out.ten
      have ltBX := BX.out.lt
      obtain ⟨d0, d1, d2, d3, d4, d5, d6, d7, d8, d9⟩ := BY.out.ten
      have ltBY := BY.out.lt
      go_wp2_with fail
      (with_reducible refine (CW.out _).mono ?_)
      rintro e w2 ⟨a1, k1, rfl, r1, b2⟩
      clear c0 c1 c2 c3 c4 c5 c6 c7 c8 c9 d0 d1 d2 d3 d4 d5 d6 d7 d8 d9 ltBX ltBY
      replace BX := Lib.hid (BX.out.here b2)
      replace BY := Lib.hid (BY.out.here b2)
      have B2 := Lib.hid (thence B1.out b2 (Nat.le_refl _))
      have R1 := Lib.hid r1
      clear r1
      clear b2 B1
      obtain ⟨c0, c1, c2, c3, c4, c5, c6, c7, c8, c9⟩ := BX.out.ten
      have ltBX := BX.out.lt
      obtain ⟨d0, d1, d2, d3, d4, d5, d6, d7, d8, d9⟩ := BY.out.ten
      have ltBY := BY.out.lt
      go_wp2_with fail
      (with_reducible refine (CV.out _).mono ?_)
      rintro e w3 ⟨a2, k2, rfl, r2, -, b3⟩
      clear c0 c1 c2 c3 c4 c5 c6 c7 c8 c9 d0 d1 d2 d3 d4 d5 d6 d7 d8 d9 ltBX ltBY
      replace BX := Lib.hid (BX.out.here b3)
      replace BY := Lib.hid (BY.out.here b3)
      replace R1 := Lib.hid (R1.out.here b3)
      have B3 := Lib.hid (thence B2.out b3 (Nat.le_refl _))
      have R2 := Lib.hid r2
      clear r2
      clear b3 B2
      obtain ⟨c0, c1, c2, c3, c4, c5, c6, c7, c8, c9⟩ := BX.out.ten
      have ltBX := BX.out.lt
      obtain ⟨d0, d1, d2, d3, d4, d5, d6, d7, d8, d9⟩ := BY.out.ten
      have ltBY := BY.out.lt
      go_wp2_with fail
      (with_reducible refine (CK.out _).mono ?_)
      rintro e w4 ⟨rfl, b4⟩
      clear c0 c1 c2 c3 c4 c5 c6 c7 c8 c9 d0 d1 d2 d3 d4 d5 d6 d7 d8 d9 ltBX ltBY
      replace BX := Lib.hid (BX.out.here b4)
      replace BY := Lib.hid (BY.out.here b4)
      replace R1 := Lib.hid (R1.out.here b4)
      replace R2 := Lib.hid (R2.out.here b4)
      have B4 := Lib.hid (thence B3.out b4 (Nat.le_refl _))
      clear b4 B3
      obtain ⟨c0, c1, c2, c3, c4, c5, c6, c7, c8, c9⟩ := BX.out.ten
      have ltBX := BX.out.lt
      obtain ⟨d0, d1, d2, d3, d4, d5, d6, d7, d8, d9⟩ := BY.out.ten
      have ltBY := BY.out.lt
      go_wp2_with fail
      go_quiet (fail)
      rename_i nq
      have B5 := Lib.hid (below_drewN B4.out nq)
      go_wp2_with fail
      go_ret
      exact ⟨rfl, B5.out⟩
    | false =>
      have CW := Lib.hid (fun w1 => I.no id ev mem chunk rows log me lost done op w1 HI.out hm)
      have CV := Lib.hid (fun w1 => I.no id' ev' mem' chunk' rows' log' me' lost' done' op' w1 HJ.out hn)
      have CK : Hid (∀ w1, Calls Try.prog 14 #[.agg #[.int .u32 (id : Int), .int .u32 (ev : Int), .int .i64 mem, .int .i64 chunk, .int .i64 rows, .int .i64 log, .int .i64 me, .int .i64 lost, .int .i64 done, .bool op]] w1 fun e w' => e = .returned (.int .i64 8) ∧ Below w1.heap.size w1 w') := fun w1 => by have := I.check id ev mem chunk rows log me lost done op w1 HI.out; rw [LB.code_no hm] at this; exact this
      clear hm hn
      go_enter Try.func8, Try.ntmps8
      go_wp2_with fail
      generalize (w.alloc (.cells #[.int .u32 (id : Int), .int .u32 (ev : Int), .int .i64 mem, .int .i64 chunk, .int .i64 rows, .int .i64 log, .int .i64 me, .int .i64 lost, .int .i64 done, .bool op] 28)).alloc (.cells #[.int .u32 (id' : Int), .int .u32 (ev' : Int), .int .i64 mem', .int .i64 chunk', .int .i64 rows', .int .i64 log', .int .i64 me', .int .i64 lost', .int .i64 done', .bool op'] 28) = W0 at *
      obtain ⟨c0, c1, c2, c3, c4, c5, c6, c7, c8, c9⟩ := BX.out.ten
      obtain ⟨d0, d1, d2, d3, d4, d5, d6, d7, d8, d9⟩ := BY.out.ten
      have ltBX := BX.out.lt
      have ltBY := BY.out.lt
      (with_reducible refine (CA.out _).mono ?_)
      rintro e w1 ⟨rfl, b1⟩
      clear c0 c1 c2 c3 c4 c5 c6 c7 c8 c9 d0 d1 d2 d3 d4 d5 d6 d7 d8 d9 ltBX ltBY
      replace BX := Lib.hid (BX.out.here b1)
      replace BY := Lib.hid (BY.out.here b1)
      have B1 := Lib.hid (thence B0.out b1 (Nat.le_refl _))
      clear b1 B0
      obtain ⟨c0, c1, c2, c3, c4, c5, c6, c7, c8, c9⟩ := BX.out.ten
      have ltBX := BX.out.lt
      obtain ⟨d0, d1, d2, d3, d4, d5, d6, d7, d8, d9⟩ := BY.out.ten
      have ltBY := BY.out.lt
      go_wp2_with fail
      (with_reducible refine (CW.out _).mono ?_)
      rintro e w2 ⟨a1, k1, rfl, r1, b2⟩
      clear c0 c1 c2 c3 c4 c5 c6 c7 c8 c9 d0 d1 d2 d3 d4 d5 d6 d7 d8 d9 ltBX ltBY
      replace BX := Lib.hid (BX.out.here b2)
      replace BY := Lib.hid (BY.out.here b2)
      have B2 := Lib.hid (thence B1.out b2 (Nat.le_refl _))
      have R1 := Lib.hid r1
      clear r1
      clear b2 B1
      obtain ⟨c0, c1, c2, c3, c4, c5, c6, c7, c8, c9⟩ := BX.out.ten
      have ltBX := BX.out.lt
      obtain ⟨d0, d1, d2, d3, d4, d5, d6, d7, d8, d9⟩ := BY.out.ten
      have ltBY := BY.out.lt
      go_wp2_with fail
      (with_reducible refine (CV.out _).mono ?_)
      rintro e w3 ⟨a2, k2, rfl, r2, b3⟩
      clear c0 c1 c2 c3 c4 c5 c6 c7 c8 c9 d0 d1 d2 d3 d4 d5 d6 d7 d8 d9 ltBX ltBY
      replace BX := Lib.hid (BX.out.here b3)
      replace BY := Lib.hid (BY.out.here b3)
      replace R1 := Lib.hid (R1.out.here b3)
      have B3 := Lib.hid (thence B2.out b3 (Nat.le_refl _))
      have R2 := Lib.hid r2
      clear r2
      clear b3 B2
      obtain ⟨c0, c1, c2, c3, c4, c5, c6, c7, c8, c9⟩ := BX.out.ten
      have ltBX := BX.out.lt
      obtain ⟨d0, d1, d2, d3, d4, d5, d6, d7, d8, d9⟩ := BY.out.ten
      have ltBY := BY.out.lt
      go_wp2_with fail
      (with_reducible refine (CK.out _).mono ?_)
      rintro e w4 ⟨rfl, b4⟩
      clear c0 c1 c2 c3 c4 c5 c6 c7 c8 c9 d0 d1 d2 d3 d4 d5 d6 d7 d8 d9 ltBX ltBY
      replace BX := Lib.hid (BX.out.here b4)
      replace BY := Lib.hid (BY.out.here b4)
      replace R1 := Lib.hid (R1.out.here b4)
      replace R2 := Lib.hid (R2.out.here b4)
      have B4 := Lib.hid (thence B3.out b4 (Nat.le_refl _))
      clear b4 B3
      obtain ⟨c0, c1, c2, c3, c4, c5, c6, c7, c8, c9⟩ := BX.out.ten
      have ltBX := BX.out.lt
      obtain ⟨d0, d1, d2, d3, d4, d5, d6, d7, d8, d9⟩ := BY.out.ten
      have ltBY := BY.out.lt
      go_wp2_with fail
      go_quiet (fail)
      rename_i nq
      have B5 := Lib.hid (below_drewN B4.out nq)
      go_wp2_with fail
      go_ret
      exact ⟨rfl, B5.out⟩
end Go.Proofs.Ytleaphlignfkjaa.PW
