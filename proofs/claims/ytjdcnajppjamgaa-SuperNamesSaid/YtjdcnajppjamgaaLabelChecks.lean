/-
  Layer 9: the program's own tests of a label; its numbers, and back.
-/
import Derived.Test.YtjdcnajppjamgaaLabelNums
import Derived.Test.YtjdcnajppjamgaaShapeCalls
namespace Go.Proofs.Ytjdcnajppjamgaa.PW
open Go.RowKit
open LB (Lab)
set_option linter.unusedVariables false
set_option linter.unusedSimpArgs false
set_option maxRecDepth 100000

set_option maxHeartbeats 1000000 in
theorem lbConfig_any (id ev : Nat) (mem chunk rows log me lost done : Int) (op : Bool) (w : World) :
    Calls Try.prog 52 #[.agg #[.int .u32 (id : Int), .int .u32 (ev : Int), .int .i64 mem, .int .i64 chunk, .int .i64 rows, .int .i64 log, .int .i64 me, .int .i64 lost, .int .i64 done, .bool op]] w fun e w' => e = .returned (.agg #[.int .u32 (id : Int), .int .i64 mem, .int .i64 chunk, .int .i64 rows, .int .i64 log, .int .i64 2]) ∧ Below w.heap.size w w' := by
  go_enter Try.func52, Try.ntmps52
  go_wp2_with fail
  refine bodyPost_ret (v := .agg #[.int .u32 (id : Int), .int .i64 mem, .int .i64 chunk, .int .i64 rows, .int .i64 log, .int .i64 2]) (by simp [results, Try.results52, go_sem]) rfl ⟨rfl, ?_⟩
  exact (((Below.refl _ _).alloc (Nat.le_refl _) _).alloc (by simp) _)

/-- Whether a label's array has such a member; whether it may tell this one as lost. -/
def lbMem (mem n : Int) : Bool := decide (0 ≤ n ∧ n < mem)
def lbLost (mem lost done n : Int) : Bool := decide (lost = -1 ∧ done = 0 ∨ lost ≠ -1 ∧ lbMem mem lost = true ∧ 0 ≤ done ∧ done ≤ n)
set_option maxHeartbeats 1000000 in
theorem lbMember_any (id ev : Nat) (mem chunk rows log me lost done : Int) (op : Bool) (n : Int) (w : World) :
    Calls Try.prog 53 #[.agg #[.int .u32 (id : Int), .int .u32 (ev : Int), .int .i64 mem, .int .i64 chunk, .int .i64 rows, .int .i64 log, .int .i64 me, .int .i64 lost, .int .i64 done, .bool op], .int .i64 n] w fun e w' => e = .returned (.bool (lbMem mem n)) ∧ Below w.heap.size w w' := by
  have B0 : Hid (Below w.heap.size w (w.alloc (.cells #[.int .u32 (id : Int), .int .u32 (ev : Int), .int .i64 mem, .int .i64 chunk, .int .i64 rows, .int .i64 log, .int .i64 me, .int .i64 lost, .int .i64 done, .bool op] 43))) := (Below.refl _ _).alloc (Nat.le_refl _) _
  have BX : Hid (Bx (w.alloc (.cells #[.int .u32 (id : Int), .int .u32 (ev : Int), .int .i64 mem, .int .i64 chunk, .int .i64 rows, .int .i64 log, .int .i64 me, .int .i64 lost, .int .i64 done, .bool op] 43)) w.heap.size [.int .u32 (id : Int), .int .u32 (ev : Int), .int .i64 mem, .int .i64 chunk, .int .i64 rows, .int .i64 log, .int .i64 me, .int .i64 lost, .int .i64 done, .bool op]) := Bx.new w [.int .u32 (id : Int), .int .u32 (ev : Int), .int .i64 mem, .int .i64 chunk, .int .i64 rows, .int .i64 log, .int .i64 me, .int .i64 lost, .int .i64 done, .bool op] 43
  unfold lbMem
  by_cases g1 : 0 ≤ n
  case neg =>
    rw [decide_eq_false (show ¬ (0 ≤ n ∧ n < mem) from fun q => g1 q.1)]
    have e1 : decide (0 ≤ n) = false := decide_eq_false g1
    go_enter Try.func53, Try.ntmps53
    go_wp2_with fail
    go_ret
    exact ⟨rfl, B0.out⟩
  have e1 : decide (0 ≤ n) = true := decide_eq_true g1
  by_cases g2 : n < mem
  case neg =>
    rw [decide_eq_false (show ¬ (0 ≤ n ∧ n < mem) from fun q => g2 q.2)]
    have e2 : decide (n < mem) = false := decide_eq_false g2
    go_enter Try.func53, Try.ntmps53
    go_wp2_with fail
    go_ret
    exact ⟨rfl, B0.out⟩
  rw [decide_eq_true (show 0 ≤ n ∧ n < mem from ⟨g1, g2⟩)]
  have e2 : decide (n < mem) = true := decide_eq_true g2
  go_enter Try.func53, Try.ntmps53
  go_wp2_with fail
  go_ret
  exact ⟨rfl, B0.out⟩
set_option maxHeartbeats 1000000 in
theorem lbLost_any (id ev : Nat) (mem chunk rows log me lost done : Int) (op : Bool) (n : Int) (w : World) :
    Calls Try.prog 54 #[.agg #[.int .u32 (id : Int), .int .u32 (ev : Int), .int .i64 mem, .int .i64 chunk, .int .i64 rows, .int .i64 log, .int .i64 me, .int .i64 lost, .int .i64 done, .bool op], .int .i64 n] w fun e w' => e = .returned (.bool (lbLost mem lost done n)) ∧ Below w.heap.size w w' := by
  have CM := Lib.hid (fun w1 => lbMember_any id ev mem chunk rows log me lost done op lost w1)
  have B0 : Hid (Below w.heap.size w (w.alloc (.cells #[.int .u32 (id : Int), .int .u32 (ev : Int), .int .i64 mem, .int .i64 chunk, .int .i64 rows, .int .i64 log, .int .i64 me, .int .i64 lost, .int .i64 done, .bool op] 43))) := (Below.refl _ _).alloc (Nat.le_refl _) _
  have BX : Hid (Bx (w.alloc (.cells #[.int .u32 (id : Int), .int .u32 (ev : Int), .int .i64 mem, .int .i64 chunk, .int .i64 rows, .int .i64 log, .int .i64 me, .int .i64 lost, .int .i64 done, .bool op] 43)) w.heap.size [.int .u32 (id : Int), .int .u32 (ev : Int), .int .i64 mem, .int .i64 chunk, .int .i64 rows, .int .i64 log, .int .i64 me, .int .i64 lost, .int .i64 done, .bool op]) := Bx.new w [.int .u32 (id : Int), .int .u32 (ev : Int), .int .i64 mem, .int .i64 chunk, .int .i64 rows, .int .i64 log, .int .i64 me, .int .i64 lost, .int .i64 done, .bool op] 43
  by_cases h1 : lost = -1
  · subst h1
    by_cases h2 : done = 0
    · subst h2
      have hv : lbLost mem (-1) 0 n = true := decide_eq_true (.inl ⟨rfl, rfl⟩)
      rw [hv]
      clear hv
      go_enter Try.func54, Try.ntmps54
      go_wp2_with fail
      go_ret
      exact ⟨rfl, B0.out⟩
    · have hv : lbLost mem (-1) done n = false := decide_eq_false (fun q => by rcases q with q | q; exact h2 q.2; exact q.1 rfl)
      rw [hv]
      clear hv
      have e2 : (done == 0) = false := beq_eq_false_iff_ne.2 h2
      go_enter Try.func54, Try.ntmps54
      go_wp2_with fail
      go_ret
      exact ⟨rfl, B0.out⟩
  have e1 : (lost == -1) = false := beq_eq_false_iff_ne.2 h1
  cases hm : lbMem mem lost with
  | false =>
    have hv : lbLost mem lost done n = false := decide_eq_false (fun q => by rcases q with q | q; exact h1 q.1; rw [hm] at q; exact absurd q.2.1 (by decide))
    rw [hv]
    rw [hm] at CM
    clear hv hm h1
    obtain ⟨c0, c1, c2, c3, c4, c5, c6, c7, c8, c9⟩ := BX.out.ten
    have ltBX := BX.out.lt
    go_enter Try.func54, Try.ntmps54
    go_wp2_with fail
    (with_reducible refine (CM.out _).mono ?_)
    rintro e w1 ⟨rfl, b1⟩
    clear c0 c1 c2 c3 c4 c5 c6 c7 c8 c9 ltBX
    replace BX := Lib.hid (BX.out.here b1)
    have B1 := Lib.hid (thence B0.out b1 (Nat.le_refl _))
    clear b1 B0
    obtain ⟨c0, c1, c2, c3, c4, c5, c6, c7, c8, c9⟩ := BX.out.ten
    have ltBX := BX.out.lt
    go_wp2_with fail
    go_ret
    exact ⟨rfl, B1.out⟩
  | true =>
    rw [hm] at CM
    by_cases h2 : 0 ≤ done
    case neg =>
      have hv : lbLost mem lost done n = false := decide_eq_false (fun q => by rcases q with q | q; exact h1 q.1; exact h2 q.2.2.1)
      rw [hv]
      have e2 : decide (0 ≤ done) = false := decide_eq_false h2
      clear hv hm h1
      obtain ⟨c0, c1, c2, c3, c4, c5, c6, c7, c8, c9⟩ := BX.out.ten
      have ltBX := BX.out.lt
      go_enter Try.func54, Try.ntmps54
      go_wp2_with fail
      (with_reducible refine (CM.out _).mono ?_)
      rintro e w1 ⟨rfl, b1⟩
      clear c0 c1 c2 c3 c4 c5 c6 c7 c8 c9 ltBX
      replace BX := Lib.hid (BX.out.here b1)
      have B1 := Lib.hid (thence B0.out b1 (Nat.le_refl _))
      clear b1 B0
      obtain ⟨c0, c1, c2, c3, c4, c5, c6, c7, c8, c9⟩ := BX.out.ten
      have ltBX := BX.out.lt
      go_wp2_with fail
      go_ret
      exact ⟨rfl, B1.out⟩
    have e2 : decide (0 ≤ done) = true := decide_eq_true h2
    by_cases h3 : done ≤ n
    case neg =>
      have hv : lbLost mem lost done n = false := decide_eq_false (fun q => by rcases q with q | q; exact h1 q.1; exact h3 q.2.2.2)
      rw [hv]
      have e3 : decide (done ≤ n) = false := decide_eq_false h3
      clear hv hm h1
      obtain ⟨c0, c1, c2, c3, c4, c5, c6, c7, c8, c9⟩ := BX.out.ten
      have ltBX := BX.out.lt
      go_enter Try.func54, Try.ntmps54
      go_wp2_with fail
      (with_reducible refine (CM.out _).mono ?_)
      rintro e w1 ⟨rfl, b1⟩
      clear c0 c1 c2 c3 c4 c5 c6 c7 c8 c9 ltBX
      replace BX := Lib.hid (BX.out.here b1)
      have B1 := Lib.hid (thence B0.out b1 (Nat.le_refl _))
      clear b1 B0
      obtain ⟨c0, c1, c2, c3, c4, c5, c6, c7, c8, c9⟩ := BX.out.ten
      have ltBX := BX.out.lt
      go_wp2_with fail
      go_ret
      exact ⟨rfl, B1.out⟩
    have hv : lbLost mem lost done n = true := decide_eq_true (.inr ⟨h1, hm, h2, h3⟩)
    rw [hv]
    have e3 : decide (done ≤ n) = true := decide_eq_true h3
    clear hv hm h1
    obtain ⟨c0, c1, c2, c3, c4, c5, c6, c7, c8, c9⟩ := BX.out.ten
    have ltBX := BX.out.lt
    go_enter Try.func54, Try.ntmps54
    go_wp2_with fail
    (with_reducible refine (CM.out _).mono ?_)
    rintro e w1 ⟨rfl, b1⟩
    clear c0 c1 c2 c3 c4 c5 c6 c7 c8 c9 ltBX
    replace BX := Lib.hid (BX.out.here b1)
    have B1 := Lib.hid (thence B0.out b1 (Nat.le_refl _))
    clear b1 B0
    obtain ⟨c0, c1, c2, c3, c4, c5, c6, c7, c8, c9⟩ := BX.out.ten
    have ltBX := BX.out.lt
    go_wp2_with fail
    go_ret
    exact ⟨rfl, B1.out⟩
set_option maxHeartbeats 2000000 in
theorem lbCheck_any (id ev : Nat) (mem chunk rows log me lost done : Int) (op : Bool) (w : World) :
    Calls Try.prog 31 #[.agg #[.int .u32 (id : Int), .int .u32 (ev : Int), .int .i64 mem, .int .i64 chunk, .int .i64 rows, .int .i64 log, .int .i64 me, .int .i64 lost, .int .i64 done, .bool op]] w fun e w' => e = .returned (.int .i64 ((Lab.code ⟨id, ev, mem, chunk, rows, log, me, lost, done, op⟩ : Nat) : Int)) ∧ Below w.heap.size w w' := by
  have CC := Lib.hid (fun w1 => lbConfig_any id ev mem chunk rows log me lost done op w1)
  have CS := Lib.hid (fun w1 => shStripes_is id mem chunk rows log 2 w1)
  have CM := Lib.hid (fun w1 => lbMember_any id ev mem chunk rows log me lost done op me w1)
  have CL := Lib.hid (fun n w1 => lbLost_any id ev mem chunk rows log me lost done op n w1)
  have B0 : Hid (Below w.heap.size w (w.alloc (.cells #[.int .u32 (id : Int), .int .u32 (ev : Int), .int .i64 mem, .int .i64 chunk, .int .i64 rows, .int .i64 log, .int .i64 me, .int .i64 lost, .int .i64 done, .bool op] 43))) := (Below.refl _ _).alloc (Nat.le_refl _) _
  have BX : Hid (Bx (w.alloc (.cells #[.int .u32 (id : Int), .int .u32 (ev : Int), .int .i64 mem, .int .i64 chunk, .int .i64 rows, .int .i64 log, .int .i64 me, .int .i64 lost, .int .i64 done, .bool op] 43)) w.heap.size [.int .u32 (id : Int), .int .u32 (ev : Int), .int .i64 mem, .int .i64 chunk, .int .i64 rows, .int .i64 log, .int .i64 me, .int .i64 lost, .int .i64 done, .bool op]) := Bx.new w [.int .u32 (id : Int), .int .u32 (ev : Int), .int .i64 mem, .int .i64 chunk, .int .i64 rows, .int .i64 log, .int .i64 me, .int .i64 lost, .int .i64 done, .bool op] 43
  cases hm : SK.Cfg.may (⟨id, mem, chunk, rows, log, 2⟩ : SK.Cfg) with
  | false =>
    have hq : SK.Cfg.code (⟨id, mem, chunk, rows, log, 2⟩ : SK.Cfg) = 8 := by unfold SK.Cfg.code; rw [hm]; rfl
    have hv : Lab.code ⟨id, ev, mem, chunk, rows, log, me, lost, done, op⟩ = 8 := LB.code_no (LB.may_not.2 (fun q => by have h : SK.Cfg.may (⟨id, mem, chunk, rows, log, 2⟩ : SK.Cfg) = true := SK.may_iff.2 q.1; rw [h] at hm; cases hm))
    rw [hv]
    rw [hm, hq] at CS
    have CB : Hid (∀ w1, Calls Try.prog 51 #[.agg #[.int .u32 (id : Int), .int .i64 mem, .int .i64 chunk, .int .i64 rows, .int .i64 log, .int .i64 2]] w1 fun e w' => e = .returned (.tuple #[.int .i64 (0), .int .i64 8]) ∧ Below w1.heap.size w1 w') := CS
    clear CS hm hq hv CM CL
    obtain ⟨c0, c1, c2, c3, c4, c5, c6, c7, c8, c9⟩ := BX.out.ten
    have ltBX := BX.out.lt
    go_enter Try.func31, Try.ntmps31
    go_wp2_with fail
    (with_reducible refine (CC.out _).mono ?_)
    rintro e w1 ⟨rfl, b1⟩
    clear c0 c1 c2 c3 c4 c5 c6 c7 c8 c9 ltBX
    replace BX := Lib.hid (BX.out.here b1)
    have B1 := Lib.hid (thence B0.out b1 (Nat.le_refl _))
    clear b1 B0
    obtain ⟨c0, c1, c2, c3, c4, c5, c6, c7, c8, c9⟩ := BX.out.ten
    have ltBX := BX.out.lt
    go_wp2_with fail
    (with_reducible refine (CB.out _).mono ?_)
    rintro e w2 ⟨rfl, b2⟩
    clear c0 c1 c2 c3 c4 c5 c6 c7 c8 c9 ltBX
    replace BX := Lib.hid (BX.out.here b2)
    have B2 := Lib.hid (thence B1.out b2 (Nat.le_refl _))
    clear b2 B1
    obtain ⟨c0, c1, c2, c3, c4, c5, c6, c7, c8, c9⟩ := BX.out.ten
    have ltBX := BX.out.lt
    go_wp2_with fail
    go_ret
    exact ⟨rfl, B2.out⟩
  | true =>
    have hq : SK.Cfg.code (⟨id, mem, chunk, rows, log, 2⟩ : SK.Cfg) = 0 := by unfold SK.Cfg.code; rw [hm]; rfl
    have hc := SK.may_iff.1 hm
    rw [hm, hq] at CS
    have CB : Hid (∀ w1, Calls Try.prog 51 #[.agg #[.int .u32 (id : Int), .int .i64 mem, .int .i64 chunk, .int .i64 rows, .int .i64 log, .int .i64 2]] w1 fun e w' => e = .returned (.tuple #[.int .i64 (chunk * rows), .int .i64 0]) ∧ Below w1.heap.size w1 w') := CS
    clear CS hq
    by_cases h1 : ev ≤ 2147483648
    case neg =>
      have hv : Lab.code ⟨id, ev, mem, chunk, rows, log, me, lost, done, op⟩ = 8 := LB.code_no (LB.may_not.2 (fun q => h1 q.2.1))
      rw [hv]
      have e1 : decide ((2147483648 : Int) < (ev : Int)) = true := decide_eq_true (by omega)
      clear hm hv hc CM CL
      obtain ⟨c0, c1, c2, c3, c4, c5, c6, c7, c8, c9⟩ := BX.out.ten
      have ltBX := BX.out.lt
      go_enter Try.func31, Try.ntmps31
      go_wp2_with fail
      (with_reducible refine (CC.out _).mono ?_)
      rintro e w1 ⟨rfl, b1⟩
      clear c0 c1 c2 c3 c4 c5 c6 c7 c8 c9 ltBX
      replace BX := Lib.hid (BX.out.here b1)
      have B1 := Lib.hid (thence B0.out b1 (Nat.le_refl _))
      clear b1 B0
      obtain ⟨c0, c1, c2, c3, c4, c5, c6, c7, c8, c9⟩ := BX.out.ten
      have ltBX := BX.out.lt
      go_wp2_with fail
      (with_reducible refine (CB.out _).mono ?_)
      rintro e w2 ⟨rfl, b2⟩
      clear c0 c1 c2 c3 c4 c5 c6 c7 c8 c9 ltBX
      replace BX := Lib.hid (BX.out.here b2)
      have B2 := Lib.hid (thence B1.out b2 (Nat.le_refl _))
      clear b2 B1
      obtain ⟨c0, c1, c2, c3, c4, c5, c6, c7, c8, c9⟩ := BX.out.ten
      have ltBX := BX.out.lt
      go_wp2_with fail
      go_ret
      exact ⟨rfl, B2.out⟩
    have e1 : decide ((2147483648 : Int) < (ev : Int)) = false := decide_eq_false (by omega)
    cases h2 : lbMem mem me with
    | false =>
      have hv : Lab.code ⟨id, ev, mem, chunk, rows, log, me, lost, done, op⟩ = 8 := LB.code_no (LB.may_not.2 (fun q => by
        have : lbMem mem me = true := decide_eq_true ⟨q.2.2.1, q.2.2.2.1⟩
        rw [this] at h2; cases h2))
      rw [hv]
      rw [h2] at CM
      clear hm hv hc CL h2
      obtain ⟨c0, c1, c2, c3, c4, c5, c6, c7, c8, c9⟩ := BX.out.ten
      have ltBX := BX.out.lt
      go_enter Try.func31, Try.ntmps31
      go_wp2_with fail
      (with_reducible refine (CC.out _).mono ?_)
      rintro e w1 ⟨rfl, b1⟩
      clear c0 c1 c2 c3 c4 c5 c6 c7 c8 c9 ltBX
      replace BX := Lib.hid (BX.out.here b1)
      have B1 := Lib.hid (thence B0.out b1 (Nat.le_refl _))
      clear b1 B0
      obtain ⟨c0, c1, c2, c3, c4, c5, c6, c7, c8, c9⟩ := BX.out.ten
      have ltBX := BX.out.lt
      go_wp2_with fail
      (with_reducible refine (CB.out _).mono ?_)
      rintro e w2 ⟨rfl, b2⟩
      clear c0 c1 c2 c3 c4 c5 c6 c7 c8 c9 ltBX
      replace BX := Lib.hid (BX.out.here b2)
      have B2 := Lib.hid (thence B1.out b2 (Nat.le_refl _))
      clear b2 B1
      obtain ⟨c0, c1, c2, c3, c4, c5, c6, c7, c8, c9⟩ := BX.out.ten
      have ltBX := BX.out.lt
      go_wp2_with fail
      (with_reducible refine (CM.out _).mono ?_)
      rintro e w3 ⟨rfl, b3⟩
      clear c0 c1 c2 c3 c4 c5 c6 c7 c8 c9 ltBX
      replace BX := Lib.hid (BX.out.here b3)
      have B3 := Lib.hid (thence B2.out b3 (Nat.le_refl _))
      clear b3 B2
      obtain ⟨c0, c1, c2, c3, c4, c5, c6, c7, c8, c9⟩ := BX.out.ten
      have ltBX := BX.out.lt
      go_wp2_with fail
      go_ret
      exact ⟨rfl, B3.out⟩
    | true =>
      rw [h2] at CM
      have h2' := of_decide_eq_true h2
      cases h3 : lbLost mem lost done (chunk * rows) with
      | false =>
        have hv : Lab.code ⟨id, ev, mem, chunk, rows, log, me, lost, done, op⟩ = 8 := LB.code_no (LB.may_not.2 (fun q => by
          have : lbLost mem lost done (chunk * rows) = true := decide_eq_true (by
            rcases q.2.2.2.2 with q | ⟨q1, q2, q3, q4⟩
            · exact .inl q
            · dsimp only at q1
              exact .inr ⟨by omega, decide_eq_true ⟨q1, q2⟩, q3, q4⟩)
          rw [this] at h3; cases h3))
        rw [hv]
        have CL2 := Lib.hid (fun w1 => CL.out (chunk * rows) w1)
        rw [h3] at CL2
        clear hm hv hc CL h2 h2' h3
        obtain ⟨c0, c1, c2, c3, c4, c5, c6, c7, c8, c9⟩ := BX.out.ten
        have ltBX := BX.out.lt
        go_enter Try.func31, Try.ntmps31
        go_wp2_with fail
        (with_reducible refine (CC.out _).mono ?_)
        rintro e w1 ⟨rfl, b1⟩
        clear c0 c1 c2 c3 c4 c5 c6 c7 c8 c9 ltBX
        replace BX := Lib.hid (BX.out.here b1)
        have B1 := Lib.hid (thence B0.out b1 (Nat.le_refl _))
        clear b1 B0
        obtain ⟨c0, c1, c2, c3, c4, c5, c6, c7, c8, c9⟩ := BX.out.ten
        have ltBX := BX.out.lt
        go_wp2_with fail
        (with_reducible refine (CB.out _).mono ?_)
        rintro e w2 ⟨rfl, b2⟩
        clear c0 c1 c2 c3 c4 c5 c6 c7 c8 c9 ltBX
        replace BX := Lib.hid (BX.out.here b2)
        have B2 := Lib.hid (thence B1.out b2 (Nat.le_refl _))
        clear b2 B1
        obtain ⟨c0, c1, c2, c3, c4, c5, c6, c7, c8, c9⟩ := BX.out.ten
        have ltBX := BX.out.lt
        go_wp2_with fail
        (with_reducible refine (CM.out _).mono ?_)
        rintro e w3 ⟨rfl, b3⟩
        clear c0 c1 c2 c3 c4 c5 c6 c7 c8 c9 ltBX
        replace BX := Lib.hid (BX.out.here b3)
        have B3 := Lib.hid (thence B2.out b3 (Nat.le_refl _))
        clear b3 B2
        obtain ⟨c0, c1, c2, c3, c4, c5, c6, c7, c8, c9⟩ := BX.out.ten
        have ltBX := BX.out.lt
        go_wp2_with fail
        (with_reducible refine (CL2.out _).mono ?_)
        rintro e w4 ⟨rfl, b4⟩
        clear c0 c1 c2 c3 c4 c5 c6 c7 c8 c9 ltBX
        replace BX := Lib.hid (BX.out.here b4)
        have B4 := Lib.hid (thence B3.out b4 (Nat.le_refl _))
        clear b4 B3
        obtain ⟨c0, c1, c2, c3, c4, c5, c6, c7, c8, c9⟩ := BX.out.ten
        have ltBX := BX.out.lt
        go_wp2_with fail
        go_ret
        exact ⟨rfl, B4.out⟩
      | true =>
        have hv : Lab.code ⟨id, ev, mem, chunk, rows, log, me, lost, done, op⟩ = 0 := LB.code_yes (LB.may_iff.2 (by
          refine ⟨hc, h1, h2'.1, h2'.2, ?_⟩
          rcases of_decide_eq_true h3 with q | ⟨q1, q2, q3, q4⟩
          · exact .inl q
          · have := of_decide_eq_true q2
            exact .inr ⟨this.1, this.2, q3, q4⟩))
        rw [hv]
        have CL2 := Lib.hid (fun w1 => CL.out (chunk * rows) w1)
        rw [h3] at CL2
        clear hm hv hc CL h2 h2' h3
        obtain ⟨c0, c1, c2, c3, c4, c5, c6, c7, c8, c9⟩ := BX.out.ten
        have ltBX := BX.out.lt
        go_enter Try.func31, Try.ntmps31
        go_wp2_with fail
        (with_reducible refine (CC.out _).mono ?_)
        rintro e w1 ⟨rfl, b1⟩
        clear c0 c1 c2 c3 c4 c5 c6 c7 c8 c9 ltBX
        replace BX := Lib.hid (BX.out.here b1)
        have B1 := Lib.hid (thence B0.out b1 (Nat.le_refl _))
        clear b1 B0
        obtain ⟨c0, c1, c2, c3, c4, c5, c6, c7, c8, c9⟩ := BX.out.ten
        have ltBX := BX.out.lt
        go_wp2_with fail
        (with_reducible refine (CB.out _).mono ?_)
        rintro e w2 ⟨rfl, b2⟩
        clear c0 c1 c2 c3 c4 c5 c6 c7 c8 c9 ltBX
        replace BX := Lib.hid (BX.out.here b2)
        have B2 := Lib.hid (thence B1.out b2 (Nat.le_refl _))
        clear b2 B1
        obtain ⟨c0, c1, c2, c3, c4, c5, c6, c7, c8, c9⟩ := BX.out.ten
        have ltBX := BX.out.lt
        go_wp2_with fail
        (with_reducible refine (CM.out _).mono ?_)
        rintro e w3 ⟨rfl, b3⟩
        clear c0 c1 c2 c3 c4 c5 c6 c7 c8 c9 ltBX
        replace BX := Lib.hid (BX.out.here b3)
        have B3 := Lib.hid (thence B2.out b3 (Nat.le_refl _))
        clear b3 B2
        obtain ⟨c0, c1, c2, c3, c4, c5, c6, c7, c8, c9⟩ := BX.out.ten
        have ltBX := BX.out.lt
        go_wp2_with fail
        (with_reducible refine (CL2.out _).mono ?_)
        rintro e w4 ⟨rfl, b4⟩
        clear c0 c1 c2 c3 c4 c5 c6 c7 c8 c9 ltBX
        replace BX := Lib.hid (BX.out.here b4)
        have B4 := Lib.hid (thence B3.out b4 (Nat.le_refl _))
        clear b4 B3
        obtain ⟨c0, c1, c2, c3, c4, c5, c6, c7, c8, c9⟩ := BX.out.ten
        have ltBX := BX.out.lt
        go_wp2_with fail
        go_ret
        exact ⟨rfl, B4.out⟩
end Go.Proofs.Ytjdcnajppjamgaa.PW
