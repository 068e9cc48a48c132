/-
  Layer 10: the program's own test of a super.
-/
import Derived.Test.YtjdcnajppjamgaaSuperLaws
namespace Go.Proofs.Ytjdcnajppjamgaa.PW
open Go.RowKit
open SB (Sup)
set_option linter.unusedVariables false
set_option linter.unusedSimpArgs false
set_option maxRecDepth 100000

set_option maxHeartbeats 1000000 in
theorem suCounts_any (n : Nat) (w : World) : Calls Try.prog 23 #[.int .u32 (n : Int)] w fun e w' => e = .returned (.bool (decide (1 ≤ n ∧ n ≤ 2147483648))) ∧ Below w.heap.size w w' := by
  have B0 : Hid (Below w.heap.size w w) := Below.refl _ _
  by_cases g0 : 1 ≤ n
  case neg =>
    rw [decide_eq_false (show ¬ (1 ≤ n ∧ n ≤ 2147483648) by omega)]
    have f0 : decide ((1 : Int) ≤ (n : Int)) = false := decide_eq_false (by omega)
    clear g0
    go_enter Try.func23, Try.ntmps23
    go_wp2_with fail
    go_ret
    exact ⟨rfl, B0.out⟩
  have f0 : decide ((1 : Int) ≤ (n : Int)) = true := decide_eq_true (by omega)
  by_cases g1 : n ≤ 2147483648
  case neg =>
    rw [decide_eq_false (show ¬ (1 ≤ n ∧ n ≤ 2147483648) by omega)]
    have f1 : decide ((n : Int) ≤ 2147483648) = false := decide_eq_false (by omega)
    clear g0 g1
    go_enter Try.func23, Try.ntmps23
    go_wp2_with fail
    go_ret
    exact ⟨rfl, B0.out⟩
  have f1 : decide ((n : Int) ≤ 2147483648) = true := decide_eq_true (by omega)
  rw [decide_eq_true (show (1 ≤ n ∧ n ≤ 2147483648) by omega)]
  clear g0 g1
  go_enter Try.func23, Try.ntmps23
  go_wp2_with fail
  go_ret
  exact ⟨rfl, B0.out⟩

set_option maxHeartbeats 1000000 in
theorem suCheck_any (id age seq : Nat) (tail : Int) (w : World) :
    Calls Try.prog 13 #[.agg #[.int .u32 (id : Int), .int .u32 (age : Int), .int .u32 (seq : Int), .int .i64 tail]] w fun e w' => e = .returned (.int .i64 ((Sup.code ⟨id, age, seq, tail⟩ : Nat) : Int)) ∧ Below w.heap.size w w' := by
  have B0 : Hid (Below w.heap.size w (w.alloc (.cells #[.int .u32 (id : Int), .int .u32 (age : Int), .int .u32 (seq : Int), .int .i64 tail] 28))) := (Below.refl _ _).alloc (Nat.le_refl _) _
  have BX : Hid (Bx (w.alloc (.cells #[.int .u32 (id : Int), .int .u32 (age : Int), .int .u32 (seq : Int), .int .i64 tail] 28)) w.heap.size [.int .u32 (id : Int), .int .u32 (age : Int), .int .u32 (seq : Int), .int .i64 tail]) := Bx.new w [.int .u32 (id : Int), .int .u32 (age : Int), .int .u32 (seq : Int), .int .i64 tail] 28
  have CA := Lib.hid (fun w1 => suCounts_any age w1)
  have CB := Lib.hid (fun w1 => suCounts_any seq w1)
  obtain ⟨ba, hba⟩ : ∃ b : Bool, decide (1 ≤ age ∧ age ≤ 2147483648) = b := ⟨_, rfl⟩
  obtain ⟨bb, hbb⟩ : ∃ b : Bool, decide (1 ≤ seq ∧ seq ≤ 2147483648) = b := ⟨_, rfl⟩
  rw [hba] at CA
  rw [hbb] at CB
  cases ba with
  | false =>
    have hq := of_decide_eq_false hba
    have hv : Sup.code ⟨id, age, seq, tail⟩ = 8 := SB.code_no (SB.may_not.2 (fun q => hq ⟨q.1, q.2.1⟩))
    rw [hv]
    clear hv hq hba hbb CB
    obtain ⟨c0, c1, c2, c3⟩ := BX.out.four'
    have ltBX := BX.out.lt
    go_enter Try.func13, Try.ntmps13
    go_wp2_with fail
    (with_reducible refine (CA.out _).mono ?_)
    rintro e w1 ⟨rfl, b1⟩
    clear c0 c1 c2 c3 ltBX
    replace BX := Lib.hid (BX.out.here b1)
    have B1 := Lib.hid (thence B0.out b1 (Nat.le_refl _))
    clear b1 B0
    obtain ⟨c0, c1, c2, c3⟩ := BX.out.four'
    have ltBX := BX.out.lt
    go_wp2_with fail
    go_ret
    exact ⟨rfl, B1.out⟩
  | true =>
  cases bb with
  | false =>
    have hq := of_decide_eq_false hbb
    have hv : Sup.code ⟨id, age, seq, tail⟩ = 8 := SB.code_no (SB.may_not.2 (fun q => hq ⟨q.2.2.1, q.2.2.2.1⟩))
    rw [hv]
    clear hv hq hba hbb
    obtain ⟨c0, c1, c2, c3⟩ := BX.out.four'
    have ltBX := BX.out.lt
    go_enter Try.func13, Try.ntmps13
    go_wp2_with fail
    (with_reducible refine (CA.out _).mono ?_)
    rintro e w1 ⟨rfl, b1⟩
    clear c0 c1 c2 c3 ltBX
    replace BX := Lib.hid (BX.out.here b1)
    have B1 := Lib.hid (thence B0.out b1 (Nat.le_refl _))
    clear b1 B0
    obtain ⟨c0, c1, c2, c3⟩ := BX.out.four'
    have ltBX := BX.out.lt
    go_wp2_with fail
    (with_reducible refine (CB.out _).mono ?_)
    rintro e w2 ⟨rfl, b2⟩
    clear c0 c1 c2 c3 ltBX
    replace BX := Lib.hid (BX.out.here b2)
    have B2 := Lib.hid (thence B1.out b2 (Nat.le_refl _))
    clear b2 B1
    obtain ⟨c0, c1, c2, c3⟩ := BX.out.four'
    have ltBX := BX.out.lt
    go_wp2_with fail
    go_ret
    exact ⟨rfl, B2.out⟩
  | true =>
  have qa := of_decide_eq_true hba
  have qb := of_decide_eq_true hbb
  clear hba hbb
  by_cases g4 : 0 ≤ tail
  case neg =>
    have hv : Sup.code ⟨id, age, seq, tail⟩ = 8 := SB.code_no (SB.may_not.2 (fun q => g4 q.2.2.2.2.1))
    rw [hv]
    have f4 : decide (tail < 0) = true := decide_eq_true (by omega)
    clear hv qa qb g4
    obtain ⟨c0, c1, c2, c3⟩ := BX.out.four'
    have ltBX := BX.out.lt
    go_enter Try.func13, Try.ntmps13
    go_wp2_with fail
    (with_reducible refine (CA.out _).mono ?_)
    rintro e w1 ⟨rfl, b1⟩
    clear c0 c1 c2 c3 ltBX
    replace BX := Lib.hid (BX.out.here b1)
    have B1 := Lib.hid (thence B0.out b1 (Nat.le_refl _))
    clear b1 B0
    obtain ⟨c0, c1, c2, c3⟩ := BX.out.four'
    have ltBX := BX.out.lt
    go_wp2_with fail
    (with_reducible refine (CB.out _).mono ?_)
    rintro e w2 ⟨rfl, b2⟩
    clear c0 c1 c2 c3 ltBX
    replace BX := Lib.hid (BX.out.here b2)
    have B2 := Lib.hid (thence B1.out b2 (Nat.le_refl _))
    clear b2 B1
    obtain ⟨c0, c1, c2, c3⟩ := BX.out.four'
    have ltBX := BX.out.lt
    go_wp2_with fail
    go_ret
    exact ⟨rfl, B2.out⟩
  have f4 : decide (tail < 0) = false := decide_eq_false (by omega)
  by_cases g5 : tail < 255
  case neg =>
    have hv : Sup.code ⟨id, age, seq, tail⟩ = 8 := SB.code_no (SB.may_not.2 (fun q => g5 q.2.2.2.2.2))
    rw [hv]
    have f5 : decide (255 ≤ tail) = true := decide_eq_true (by omega)
    clear hv qa qb g4 g5
    obtain ⟨c0, c1, c2, c3⟩ := BX.out.four'
    have ltBX := BX.out.lt
    go_enter Try.func13, Try.ntmps13
    go_wp2_with fail
    (with_reducible refine (CA.out _).mono ?_)
    rintro e w1 ⟨rfl, b1⟩
    clear c0 c1 c2 c3 ltBX
    replace BX := Lib.hid (BX.out.here b1)
    have B1 := Lib.hid (thence B0.out b1 (Nat.le_refl _))
    clear b1 B0
    obtain ⟨c0, c1, c2, c3⟩ := BX.out.four'
    have ltBX := BX.out.lt
    go_wp2_with fail
    (with_reducible refine (CB.out _).mono ?_)
    rintro e w2 ⟨rfl, b2⟩
    clear c0 c1 c2 c3 ltBX
    replace BX := Lib.hid (BX.out.here b2)
    have B2 := Lib.hid (thence B1.out b2 (Nat.le_refl _))
    clear b2 B1
    obtain ⟨c0, c1, c2, c3⟩ := BX.out.four'
    have ltBX := BX.out.lt
    go_wp2_with fail
    go_ret
    exact ⟨rfl, B2.out⟩
  have f5 : decide (255 ≤ tail) = false := decide_eq_false (by omega)
  have hv : Sup.code ⟨id, age, seq, tail⟩ = 0 := SB.code_yes (SB.may_iff.2 ⟨qa.1, qa.2, qb.1, qb.2, g4, g5⟩)
  rw [hv]
  clear hv qa qb g4 g5
  obtain ⟨c0, c1, c2, c3⟩ := BX.out.four'
  have ltBX := BX.out.lt
  go_enter Try.func13, Try.ntmps13
  go_wp2_with fail
  (with_reducible refine (CA.out _).mono ?_)
  rintro e w1 ⟨rfl, b1⟩
  clear c0 c1 c2 c3 ltBX
  replace BX := Lib.hid (BX.out.here b1)
  have B1 := Lib.hid (thence B0.out b1 (Nat.le_refl _))
  clear b1 B0
  obtain ⟨c0, c1, c2, c3⟩ := BX.out.four'
  have ltBX := BX.out.lt
  go_wp2_with fail
  (with_reducible refine (CB.out _).mono ?_)
  rintro e w2 ⟨rfl, b2⟩
  clear c0 c1 c2 c3 ltBX
  replace BX := Lib.hid (BX.out.here b2)
  have B2 := Lib.hid (thence B1.out b2 (Nat.le_refl _))
  clear b2 B1
  obtain ⟨c0, c1, c2, c3⟩ := BX.out.four'
  have ltBX := BX.out.lt
  go_wp2_with fail
  go_ret
  exact ⟨rfl, B2.out⟩
end Go.Proofs.Ytjdcnajppjamgaa.PW
