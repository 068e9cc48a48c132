/-
  Layer 10's laws, given what the program's calls answer.
-/
import Derived.Test.YtjdcnajppjamgaaSuperLaws
namespace Go.Proofs.Ytjdcnajppjamgaa.PW
open Go.RowKit
open SB (Sup)
set_option linter.unusedVariables false
set_option linter.unusedSimpArgs false
set_option maxRecDepth 100000

set_option maxHeartbeats 4000000 in
theorem superBounds_walk (I : SuperIs) (id age seq : Nat) (tail : Int) (w : World) (hid : id < 4294967296) :
    Calls Try.prog 8 #[.agg #[.int .u32 (id : Int), .int .u32 (age : Int), .int .u32 (seq : Int), .int .i64 tail]] w fun e w' => e = .returned (.bool true) ∧ Below w.heap.size w w' := by
  have HI := Lib.hid hid
  clear hid
  have CA : Hid (∀ w1, Calls Try.prog 12 #[] w1 fun e w' => e = .returned (.bool true) ∧ Below w1.heap.size w1 w') := alive10_any I
  have B0 : Hid (Below w.heap.size w (w.alloc (.cells #[.int .u32 (id : Int), .int .u32 (age : Int), .int .u32 (seq : Int), .int .i64 tail] 28))) := (Below.refl _ _).alloc (Nat.le_refl _) _
  have BX := Lib.hid (Bx.new w [.int .u32 (id : Int), .int .u32 (age : Int), .int .u32 (seq : Int), .int .i64 tail] 28)
  by_cases g0 : 1 ≤ age
  case neg =>
    have f0 : ¬ 0 < (age : Int) := by omega
    have fd := decide_eq_false f0
    have hm : Sup.may ⟨id, age, seq, tail⟩ = false := SB.may_not.2 (fun h => g0 h.1)
    clear g0
    have CW := Lib.hid (fun w1 => I.no id age seq tail w1 HI.out hm)
    have CK : Hid (∀ w1, Calls Try.prog 13 #[.agg #[.int .u32 (id : Int), .int .u32 (age : Int), .int .u32 (seq : Int), .int .i64 tail]] w1 fun e w' => e = .returned (.int .i64 8) ∧ Below w1.heap.size w1 w') := fun w1 => by have := I.check id age seq tail w1 HI.out; rw [SB.code_no hm] at this; exact this
    clear hm
    go_enter Try.func8, Try.ntmps8
    go_wp2_with fail
    replace BX : Hid (Bx (w.alloc (.cells #[.int .u32 (id : Int), .int .u32 (age : Int), .int .u32 (seq : Int), .int .i64 tail] 28)) w.heap.size [.int .u32 (id : Int), .int .u32 (age : Int), .int .u32 (seq : Int), .int .i64 tail]) := BX
    generalize w.alloc (.cells #[.int .u32 (id : Int), .int .u32 (age : Int), .int .u32 (seq : Int), .int .i64 tail] 28) = W0 at *
    obtain ⟨c0, c1, c2, c3⟩ := BX.out.four'
    have ltBX := BX.out.lt
    (with_reducible refine (CA.out _).mono ?_)
    rintro e w1 ⟨rfl, b1⟩
    clear c0 c1 c2 c3 ltBX
    replace BX := Lib.hid (BX.out.here b1)
    have B1 := Lib.hid (thence B0.out b1 (Nat.le_refl _))
    clear b1 B0
    obtain ⟨c0, c1, c2, c3⟩ := BX.out.four'
    have ltBX := BX.out.lt
    go_wp2_with fail
    (with_reducible refine (CW.out _).mono ?_)
    rintro e w2 ⟨a1, k1, rfl, -, b2⟩
    clear c0 c1 c2 c3 ltBX
    replace BX := Lib.hid (BX.out.here b2)
    have B2 := Lib.hid (thence B1.out b2 (Nat.le_refl _))
    clear b2 B1
    obtain ⟨c0, c1, c2, c3⟩ := BX.out.four'
    have ltBX := BX.out.lt
    go_wp2_with fail
    (with_reducible refine (CK.out _).mono ?_)
    rintro e w3 ⟨rfl, b3⟩
    clear c0 c1 c2 c3 ltBX
    replace BX := Lib.hid (BX.out.here b3)
    have B3 := Lib.hid (thence B2.out b3 (Nat.le_refl _))
    clear b3 B2
    obtain ⟨c0, c1, c2, c3⟩ := BX.out.four'
    have ltBX := BX.out.lt
    go_wp2_with fail
    go_ret
    exact ⟨rfl, B3.out⟩
  have f0 : 0 < (age : Int) := by omega
  by_cases g1 : age ≤ 2147483648
  case neg =>
    have f1 : ¬ (age : Int) ≤ 2147483648 := by omega
    have fd := decide_eq_false f1
    have hm : Sup.may ⟨id, age, seq, tail⟩ = false := SB.may_not.2 (fun h => g1 h.2.1)
    clear g0 g1
    have CW := Lib.hid (fun w1 => I.no id age seq tail w1 HI.out hm)
    have CK : Hid (∀ w1, Calls Try.prog 13 #[.agg #[.int .u32 (id : Int), .int .u32 (age : Int), .int .u32 (seq : Int), .int .i64 tail]] w1 fun e w' => e = .returned (.int .i64 8) ∧ Below w1.heap.size w1 w') := fun w1 => by have := I.check id age seq tail w1 HI.out; rw [SB.code_no hm] at this; exact this
    clear hm
    go_enter Try.func8, Try.ntmps8
    go_wp2_with fail
    replace BX : Hid (Bx (w.alloc (.cells #[.int .u32 (id : Int), .int .u32 (age : Int), .int .u32 (seq : Int), .int .i64 tail] 28)) w.heap.size [.int .u32 (id : Int), .int .u32 (age : Int), .int .u32 (seq : Int), .int .i64 tail]) := BX
    generalize w.alloc (.cells #[.int .u32 (id : Int), .int .u32 (age : Int), .int .u32 (seq : Int), .int .i64 tail] 28) = W0 at *
    obtain ⟨c0, c1, c2, c3⟩ := BX.out.four'
    have ltBX := BX.out.lt
    (with_reducible refine (CA.out _).mono ?_)
    rintro e w1 ⟨rfl, b1⟩
    clear c0 c1 c2 c3 ltBX
    replace BX := Lib.hid (BX.out.here b1)
    have B1 := Lib.hid (thence B0.out b1 (Nat.le_refl _))
    clear b1 B0
    obtain ⟨c0, c1, c2, c3⟩ := BX.out.four'
    have ltBX := BX.out.lt
    go_wp2_with fail
    (with_reducible refine (CW.out _).mono ?_)
    rintro e w2 ⟨a1, k1, rfl, -, b2⟩
    clear c0 c1 c2 c3 ltBX
    replace BX := Lib.hid (BX.out.here b2)
    have B2 := Lib.hid (thence B1.out b2 (Nat.le_refl _))
    clear b2 B1
    obtain ⟨c0, c1, c2, c3⟩ := BX.out.four'
    have ltBX := BX.out.lt
    go_wp2_with fail
    (with_reducible refine (CK.out _).mono ?_)
    rintro e w3 ⟨rfl, b3⟩
    clear c0 c1 c2 c3 ltBX
    replace BX := Lib.hid (BX.out.here b3)
    have B3 := Lib.hid (thence B2.out b3 (Nat.le_refl _))
    clear b3 B2
    obtain ⟨c0, c1, c2, c3⟩ := BX.out.four'
    have ltBX := BX.out.lt
    go_wp2_with fail
    go_ret
    exact ⟨rfl, B3.out⟩
  have f1 : (age : Int) ≤ 2147483648 := by omega
  by_cases g2 : 1 ≤ seq
  case neg =>
    have f2 : ¬ 0 < (seq : Int) := by omega
    have fd := decide_eq_false f2
    have hm : Sup.may ⟨id, age, seq, tail⟩ = false := SB.may_not.2 (fun h => g2 h.2.2.1)
    clear g0 g1 g2
    have CW := Lib.hid (fun w1 => I.no id age seq tail w1 HI.out hm)
    have CK : Hid (∀ w1, Calls Try.prog 13 #[.agg #[.int .u32 (id : Int), .int .u32 (age : Int), .int .u32 (seq : Int), .int .i64 tail]] w1 fun e w' => e = .returned (.int .i64 8) ∧ Below w1.heap.size w1 w') := fun w1 => by have := I.check id age seq tail w1 HI.out; rw [SB.code_no hm] at this; exact this
    clear hm
    go_enter Try.func8, Try.ntmps8
    go_wp2_with fail
    replace BX : Hid (Bx (w.alloc (.cells #[.int .u32 (id : Int), .int .u32 (age : Int), .int .u32 (seq : Int), .int .i64 tail] 28)) w.heap.size [.int .u32 (id : Int), .int .u32 (age : Int), .int .u32 (seq : Int), .int .i64 tail]) := BX
    generalize w.alloc (.cells #[.int .u32 (id : Int), .int .u32 (age : Int), .int .u32 (seq : Int), .int .i64 tail] 28) = W0 at *
    obtain ⟨c0, c1, c2, c3⟩ := BX.out.four'
    have ltBX := BX.out.lt
    (with_reducible refine (CA.out _).mono ?_)
    rintro e w1 ⟨rfl, b1⟩
    clear c0 c1 c2 c3 ltBX
    replace BX := Lib.hid (BX.out.here b1)
    have B1 := Lib.hid (thence B0.out b1 (Nat.le_refl _))
    clear b1 B0
    obtain ⟨c0, c1, c2, c3⟩ := BX.out.four'
    have ltBX := BX.out.lt
    go_wp2_with fail
    (with_reducible refine (CW.out _).mono ?_)
    rintro e w2 ⟨a1, k1, rfl, -, b2⟩
    clear c0 c1 c2 c3 ltBX
    replace BX := Lib.hid (BX.out.here b2)
    have B2 := Lib.hid (thence B1.out b2 (Nat.le_refl _))
    clear b2 B1
    obtain ⟨c0, c1, c2, c3⟩ := BX.out.four'
    have ltBX := BX.out.lt
    go_wp2_with fail
    (with_reducible refine (CK.out _).mono ?_)
    rintro e w3 ⟨rfl, b3⟩
    clear c0 c1 c2 c3 ltBX
    replace BX := Lib.hid (BX.out.here b3)
    have B3 := Lib.hid (thence B2.out b3 (Nat.le_refl _))
    clear b3 B2
    obtain ⟨c0, c1, c2, c3⟩ := BX.out.four'
    have ltBX := BX.out.lt
    go_wp2_with fail
    go_ret
    exact ⟨rfl, B3.out⟩
  have f2 : 0 < (seq : Int) := by omega
  by_cases g3 : seq ≤ 2147483648
  case neg =>
    have f3 : ¬ (seq : Int) ≤ 2147483648 := by omega
    have fd := decide_eq_false f3
    have hm : Sup.may ⟨id, age, seq, tail⟩ = false := SB.may_not.2 (fun h => g3 h.2.2.2.1)
    clear g0 g1 g2 g3
    have CW := Lib.hid (fun w1 => I.no id age seq tail w1 HI.out hm)
    have CK : Hid (∀ w1, Calls Try.prog 13 #[.agg #[.int .u32 (id : Int), .int .u32 (age : Int), .int .u32 (seq : Int), .int .i64 tail]] w1 fun e w' => e = .returned (.int .i64 8) ∧ Below w1.heap.size w1 w') := fun w1 => by have := I.check id age seq tail w1 HI.out; rw [SB.code_no hm] at this; exact this
    clear hm
    go_enter Try.func8, Try.ntmps8
    go_wp2_with fail
    replace BX : Hid (Bx (w.alloc (.cells #[.int .u32 (id : Int), .int .u32 (age : Int), .int .u32 (seq : Int), .int .i64 tail] 28)) w.heap.size [.int .u32 (id : Int), .int .u32 (age : Int), .int .u32 (seq : Int), .int .i64 tail]) := BX
    generalize w.alloc (.cells #[.int .u32 (id : Int), .int .u32 (age : Int), .int .u32 (seq : Int), .int .i64 tail] 28) = W0 at *
    obtain ⟨c0, c1, c2, c3⟩ := BX.out.four'
    have ltBX := BX.out.lt
    (with_reducible refine (CA.out _).mono ?_)
    rintro e w1 ⟨rfl, b1⟩
    clear c0 c1 c2 c3 ltBX
    replace BX := Lib.hid (BX.out.here b1)
    have B1 := Lib.hid (thence B0.out b1 (Nat.le_refl _))
    clear b1 B0
    obtain ⟨c0, c1, c2, c3⟩ := BX.out.four'
    have ltBX := BX.out.lt
    go_wp2_with fail
    (with_reducible refine (CW.out _).mono ?_)
    rintro e w2 ⟨a1, k1, rfl, -, b2⟩
    clear c0 c1 c2 c3 ltBX
    replace BX := Lib.hid (BX.out.here b2)
    have B2 := Lib.hid (thence B1.out b2 (Nat.le_refl _))
    clear b2 B1
    obtain ⟨c0, c1, c2, c3⟩ := BX.out.four'
    have ltBX := BX.out.lt
    go_wp2_with fail
    (with_reducible refine (CK.out _).mono ?_)
    rintro e w3 ⟨rfl, b3⟩
    clear c0 c1 c2 c3 ltBX
    replace BX := Lib.hid (BX.out.here b3)
    have B3 := Lib.hid (thence B2.out b3 (Nat.le_refl _))
    clear b3 B2
    obtain ⟨c0, c1, c2, c3⟩ := BX.out.four'
    have ltBX := BX.out.lt
    go_wp2_with fail
    go_ret
    exact ⟨rfl, B3.out⟩
  have f3 : (seq : Int) ≤ 2147483648 := by omega
  by_cases g4 : 0 ≤ tail
  case neg =>
    have f4 : ¬ (0 : Int) ≤ tail := by omega
    have fd := decide_eq_false f4
    have hm : Sup.may ⟨id, age, seq, tail⟩ = false := SB.may_not.2 (fun h => g4 h.2.2.2.2.1)
    clear g0 g1 g2 g3 g4
    have CW := Lib.hid (fun w1 => I.no id age seq tail w1 HI.out hm)
    have CK : Hid (∀ w1, Calls Try.prog 13 #[.agg #[.int .u32 (id : Int), .int .u32 (age : Int), .int .u32 (seq : Int), .int .i64 tail]] w1 fun e w' => e = .returned (.int .i64 8) ∧ Below w1.heap.size w1 w') := fun w1 => by have := I.check id age seq tail w1 HI.out; rw [SB.code_no hm] at this; exact this
    clear hm
    go_enter Try.func8, Try.ntmps8
    go_wp2_with fail
    replace BX : Hid (Bx (w.alloc (.cells #[.int .u32 (id : Int), .int .u32 (age : Int), .int .u32 (seq : Int), .int .i64 tail] 28)) w.heap.size [.int .u32 (id : Int), .int .u32 (age : Int), .int .u32 (seq : Int), .int .i64 tail]) := BX
    generalize w.alloc (.cells #[.int .u32 (id : Int), .int .u32 (age : Int), .int .u32 (seq : Int), .int .i64 tail] 28) = W0 at *
    obtain ⟨c0, c1, c2, c3⟩ := BX.out.four'
    have ltBX := BX.out.lt
    (with_reducible refine (CA.out _).mono ?_)
    rintro e w1 ⟨rfl, b1⟩
    clear c0 c1 c2 c3 ltBX
    replace BX := Lib.hid (BX.out.here b1)
    have B1 := Lib.hid (thence B0.out b1 (Nat.le_refl _))
    clear b1 B0
    obtain ⟨c0, c1, c2, c3⟩ := BX.out.four'
    have ltBX := BX.out.lt
    go_wp2_with fail
    (with_reducible refine (CW.out _).mono ?_)
    rintro e w2 ⟨a1, k1, rfl, -, b2⟩
    clear c0 c1 c2 c3 ltBX
    replace BX := Lib.hid (BX.out.here b2)
    have B2 := Lib.hid (thence B1.out b2 (Nat.le_refl _))
    clear b2 B1
    obtain ⟨c0, c1, c2, c3⟩ := BX.out.four'
    have ltBX := BX.out.lt
    go_wp2_with fail
    (with_reducible refine (CK.out _).mono ?_)
    rintro e w3 ⟨rfl, b3⟩
    clear c0 c1 c2 c3 ltBX
    replace BX := Lib.hid (BX.out.here b3)
    have B3 := Lib.hid (thence B2.out b3 (Nat.le_refl _))
    clear b3 B2
    obtain ⟨c0, c1, c2, c3⟩ := BX.out.four'
    have ltBX := BX.out.lt
    go_wp2_with fail
    go_ret
    exact ⟨rfl, B3.out⟩
  have f4 : (0 : Int) ≤ tail := by omega
  by_cases g5 : tail < 255
  case neg =>
    have f5 : ¬ tail ≤ 254 := by omega
    have fd := decide_eq_false f5
    have hm : Sup.may ⟨id, age, seq, tail⟩ = false := SB.may_not.2 (fun h => g5 h.2.2.2.2.2)
    clear g0 g1 g2 g3 g4 g5
    have CW := Lib.hid (fun w1 => I.no id age seq tail w1 HI.out hm)
    have CK : Hid (∀ w1, Calls Try.prog 13 #[.agg #[.int .u32 (id : Int), .int .u32 (age : Int), .int .u32 (seq : Int), .int .i64 tail]] w1 fun e w' => e = .returned (.int .i64 8) ∧ Below w1.heap.size w1 w') := fun w1 => by have := I.check id age seq tail w1 HI.out; rw [SB.code_no hm] at this; exact this
    clear hm
    go_enter Try.func8, Try.ntmps8
    go_wp2_with fail
    replace BX : Hid (Bx (w.alloc (.cells #[.int .u32 (id : Int), .int .u32 (age : Int), .int .u32 (seq : Int), .int .i64 tail] 28)) w.heap.size [.int .u32 (id : Int), .int .u32 (age : Int), .int .u32 (seq : Int), .int .i64 tail]) := BX
    generalize w.alloc (.cells #[.int .u32 (id : Int), .int .u32 (age : Int), .int .u32 (seq : Int), .int .i64 tail] 28) = W0 at *
    obtain ⟨c0, c1, c2, c3⟩ := BX.out.four'
    have ltBX := BX.out.lt
    (with_reducible refine (CA.out _).mono ?_)
    rintro e w1 ⟨rfl, b1⟩
    clear c0 c1 c2 c3 ltBX
    replace BX := Lib.hid (BX.out.here b1)
    have B1 := Lib.hid (thence B0.out b1 (Nat.le_refl _))
    clear b1 B0
    obtain ⟨c0, c1, c2, c3⟩ := BX.out.four'
    have ltBX := BX.out.lt
    go_wp2_with fail
    (with_reducible refine (CW.out _).mono ?_)
    rintro e w2 ⟨a1, k1, rfl, -, b2⟩
    clear c0 c1 c2 c3 ltBX
    replace BX := Lib.hid (BX.out.here b2)
    have B2 := Lib.hid (thence B1.out b2 (Nat.le_refl _))
    clear b2 B1
    obtain ⟨c0, c1, c2, c3⟩ := BX.out.four'
    have ltBX := BX.out.lt
    go_wp2_with fail
    (with_reducible refine (CK.out _).mono ?_)
    rintro e w3 ⟨rfl, b3⟩
    clear c0 c1 c2 c3 ltBX
    replace BX := Lib.hid (BX.out.here b3)
    have B3 := Lib.hid (thence B2.out b3 (Nat.le_refl _))
    clear b3 B2
    obtain ⟨c0, c1, c2, c3⟩ := BX.out.four'
    have ltBX := BX.out.lt
    go_wp2_with fail
    go_ret
    exact ⟨rfl, B3.out⟩
  have f5 : tail ≤ 254 := by omega
  have hm : Sup.may ⟨id, age, seq, tail⟩ = true := SB.may_iff.2 ⟨g0, g1, g2, g3, g4, g5⟩
  clear g0 g1 g2 g3 g4 g5
  have CW := Lib.hid (fun w1 => I.yes id age seq tail w1 HI.out (SB.may_iff.1 hm))
  have CK : Hid (∀ w1, Calls Try.prog 13 #[.agg #[.int .u32 (id : Int), .int .u32 (age : Int), .int .u32 (seq : Int), .int .i64 tail]] w1 fun e w' => e = .returned (.int .i64 0) ∧ Below w1.heap.size w1 w') := fun w1 => by have := I.check id age seq tail w1 HI.out; rw [SB.code_yes hm] at this; exact this
  clear hm
  go_enter Try.func8, Try.ntmps8
  go_wp2_with fail
  replace BX : Hid (Bx (w.alloc (.cells #[.int .u32 (id : Int), .int .u32 (age : Int), .int .u32 (seq : Int), .int .i64 tail] 28)) w.heap.size [.int .u32 (id : Int), .int .u32 (age : Int), .int .u32 (seq : Int), .int .i64 tail]) := BX
  generalize w.alloc (.cells #[.int .u32 (id : Int), .int .u32 (age : Int), .int .u32 (seq : Int), .int .i64 tail] 28) = W0 at *
  obtain ⟨c0, c1, c2, c3⟩ := BX.out.four'
  have ltBX := BX.out.lt
  (with_reducible refine (CA.out _).mono ?_)
  rintro e w1 ⟨rfl, b1⟩
  clear c0 c1 c2 c3 ltBX
  replace BX := Lib.hid (BX.out.here b1)
  have B1 := Lib.hid (thence B0.out b1 (Nat.le_refl _))
  clear b1 B0
  obtain ⟨c0, c1, c2, c3⟩ := BX.out.four'
  have ltBX := BX.out.lt
  go_wp2_with fail
  (with_reducible refine (CW.out _).mono ?_)
  rintro e w2 ⟨a1, k1, rfl, -, -, b2⟩
  clear c0 c1 c2 c3 ltBX
  replace BX := Lib.hid (BX.out.here b2)
  have B2 := Lib.hid (thence B1.out b2 (Nat.le_refl _))
  clear b2 B1
  obtain ⟨c0, c1, c2, c3⟩ := BX.out.four'
  have ltBX := BX.out.lt
  go_wp2_with fail
  (with_reducible refine (CK.out _).mono ?_)
  rintro e w3 ⟨rfl, b3⟩
  clear c0 c1 c2 c3 ltBX
  replace BX := Lib.hid (BX.out.here b3)
  have B3 := Lib.hid (thence B2.out b3 (Nat.le_refl _))
  clear b3 B2
  obtain ⟨c0, c1, c2, c3⟩ := BX.out.four'
  have ltBX := BX.out.lt
  go_wp2_with fail
  go_ret
  exact ⟨rfl, B3.out⟩
end Go.Proofs.Ytjdcnajppjamgaa.PW
