/-
  Layer 10's laws, given what the program's calls answer.
-/
import Derived.Test.YtjdcnajppjamgaaSuperLaws
namespace Go.Proofs.Ytjdcnajppjamgaa.PW
open Go.RowKit
open SB (Sup)
set_option linter.unusedVariables false
set_option linter.unusedSimpArgs false
set_option maxRecDepth 100000

set_option maxHeartbeats 4000000 in
theorem superBack_walk (I : SuperIs) (id age seq : Nat) (tail : Int) (a : Option Addr) (len cap : Nat) (l : List Nat) (w : World) (hid : id < 4294967296) (hr : Rd w.heap.size w a len cap l) :
    Calls Try.prog 5 #[.agg #[.int .u32 (id : Int), .int .u32 (age : Int), .int .u32 (seq : Int), .int .i64 tail], .slice a len cap] w fun e w' => e = .returned (.bool true) ∧ Below w.heap.size w w' := by
  have CA : Hid (∀ w1, Calls Try.prog 12 #[] w1 fun e w' => e = .returned (.bool true) ∧ Below w1.heap.size w1 w') := alive10_any I
  obtain rfl := hr.long
  have hsm := hr.small
  have hby := hr.byt
  unfold maxLen at hsm
  have B0 : Hid (Below w.heap.size w (w.alloc (.cells #[.int .u32 (id : Int), .int .u32 (age : Int), .int .u32 (seq : Int), .int .i64 tail] 28))) := (Below.refl _ _).alloc (Nat.le_refl _) _
  have BX := Lib.hid (Bx.new w [.int .u32 (id : Int), .int .u32 (age : Int), .int .u32 (seq : Int), .int .i64 tail] 28)
  by_cases hbig : 1000 < l.length
  · have hb1 : (1000 : Int) < l.length := by omega
    have HR := Lib.hid hr
    clear hr hby
    generalize l.length = n at *
    go_enter Try.func5, Try.ntmps5
    go_wp2_with fail
    replace BX : Hid (Bx (w.alloc (.cells #[.int .u32 (id : Int), .int .u32 (age : Int), .int .u32 (seq : Int), .int .i64 tail] 28)) w.heap.size [.int .u32 (id : Int), .int .u32 (age : Int), .int .u32 (seq : Int), .int .i64 tail]) := BX
    generalize w.alloc (.cells #[.int .u32 (id : Int), .int .u32 (age : Int), .int .u32 (seq : Int), .int .i64 tail] 28) = W0 at *
    obtain ⟨c0, c1, c2, c3⟩ := BX.out.four'
    have ltBX := BX.out.lt
    have R0 := Lib.hid ((HR.out.below B0.out).mono B0.out.size)
    (with_reducible refine (CA.out _).mono ?_)
    rintro e w1 ⟨rfl, b1⟩
    clear c0 c1 c2 c3 ltBX
    replace BX := Lib.hid (BX.out.here b1)
    replace R0 := Lib.hid (R0.out.here b1)
    have B1 := Lib.hid (thence B0.out b1 (Nat.le_refl _))
    clear b1 B0
    obtain ⟨c0, c1, c2, c3⟩ := BX.out.four'
    have ltBX := BX.out.lt
    go_wp2_with fail
    go_ret
    exact ⟨rfl, B1.out⟩
  have hb1 : ¬ (1000 : Int) < l.length := by omega
  have HI := Lib.hid hid
  obtain ⟨⟨xi, xa, xs, xt⟩, cd, hX⟩ : ∃ X cd, SB.rd l = (X, cd) := ⟨_, _, rfl⟩
  have CP : Hid (∀ (a : Option Addr) (n k : Nat) (w1 : World), Rd w1.heap.size w1 a n k l → Calls Try.prog 11 #[.slice a n k] w1 fun e w' => e = .returned (.tuple #[.agg #[.int .u32 (xi : Int), .int .u32 (xa : Int), .int .u32 (xs : Int), .int .i64 xt], .int .i64 (cd : Int)]) ∧ Below w1.heap.size w1 w') := fun a n k w1 hr => by have := I.read a n k l w1 hr; rw [hX] at this; exact this
  have hcd := SB.rd_code l
  have hback := @SB.rd_back l
  have hidx := SB.rd_id hby
  have htx := @SB.rd_text l
  rw [hX] at hcd hback hidx
  dsimp only at hcd hback hidx
  have HR := Lib.hid hr
  have h3 : cd = 3 → (l.length = 0 → False) ∧ (l.length = 128 → False) := fun e => by
    have hx : (SB.rd l).2 = 3 := by rw [hX]; exact e
    refine ⟨fun h0 => ?_, fun h0 => ?_⟩ <;> (unfold SB.rd at hx; rw [if_neg (by omega)] at hx; split at hx <;> cases hx)
  have h90 : cd = 90 → l.length = 0 ∨ l.length = 128 := fun e => by
    by_cases h0 : l.length = 0 ∨ l.length = 128
    · exact h0
    · have := SB.rd_text (l := l) (by omega) (by omega)
      rw [hX] at this
      injection this with _ this
      omega
  rcases hcd with rfl | ⟨rfl, hz⟩ | ⟨rfl, hz⟩
  · obtain ⟨hxm, hxb, hxl⟩ := hback rfl
    have CX : Hid (∀ w1, Calls Try.prog 9 #[.agg #[.int .u32 (xi : Int), .int .u32 (xa : Int), .int .u32 (xs : Int), .int .i64 xt]] w1 fun e w' => ∃ a c, e = .returned (.tuple #[.slice a 128 c, .int .i64 0]) ∧ Rd w'.heap.size w' a 128 c l ∧ Mine w1.heap.size w' a ∧ Below w1.heap.size w1 w') := fun w1 => by have := I.yes xi xa xs xt w1 hidx hxm; rw [hxb] at this; exact this
    clear hr hX hback hxm hxb hxl hby hidx hid htx h3 h90
    generalize l.length = n at *
    cases hm : Sup.may ⟨id, age, seq, tail⟩ with
    | true =>
      have CW := Lib.hid (fun w1 => I.yes id age seq tail w1 HI.out (SB.may_iff.1 hm))
      have CL : Hid (∀ (a : Option Addr) (n : Nat) (w1 : World), Rd w1.heap.size w1 a 128 n (Sup.block ⟨id, age, seq, tail⟩) → Calls Try.prog 11 #[.slice a 128 n] w1 fun e w' => e = .returned (.tuple #[.agg #[.int .u32 (id : Int), .int .u32 (age : Int), .int .u32 (seq : Int), .int .i64 tail], .int .i64 0]) ∧ Below w1.heap.size w1 w') := fun a n w1 hr => by have := I.read a 128 n _ w1 hr; rw [SB.rd_block (SB.may_iff.1 hm) HI.out] at this; exact this
      generalize Sup.block ⟨id, age, seq, tail⟩ = K at *
      clear hm
      go_enter Try.func5, Try.ntmps5
      go_wp2_with fail
      replace BX : Hid (Bx (w.alloc (.cells #[.int .u32 (id : Int), .int .u32 (age : Int), .int .u32 (seq : Int), .int .i64 tail] 28)) w.heap.size [.int .u32 (id : Int), .int .u32 (age : Int), .int .u32 (seq : Int), .int .i64 tail]) := BX
      generalize w.alloc (.cells #[.int .u32 (id : Int), .int .u32 (age : Int), .int .u32 (seq : Int), .int .i64 tail] 28) = W0 at *
      obtain ⟨c0, c1, c2, c3⟩ := BX.out.four'
      have ltBX := BX.out.lt
      have R0 := Lib.hid ((HR.out.below B0.out).mono B0.out.size)
      (with_reducible refine (CA.out _).mono ?_)
      rintro e w1 ⟨rfl, b1⟩
      clear c0 c1 c2 c3 ltBX
      replace BX := Lib.hid (BX.out.here b1)
      replace R0 := Lib.hid (R0.out.here b1)
      have B1 := Lib.hid (thence B0.out b1 (Nat.le_refl _))
      clear b1 B0
      obtain ⟨c0, c1, c2, c3⟩ := BX.out.four'
      have ltBX := BX.out.lt
      go_wp2_with fail
      (with_reducible refine (CW.out _).mono ?_)
      rintro e w2 ⟨a1, k1, rfl, r1, -, b2⟩
      clear c0 c1 c2 c3 ltBX
      replace BX := Lib.hid (BX.out.here b2)
      replace R0 := Lib.hid (R0.out.here b2)
      have B2 := Lib.hid (thence B1.out b2 (Nat.le_refl _))
      have R1 := Lib.hid r1
      clear r1
      clear b2 B1
      obtain ⟨c0, c1, c2, c3⟩ := BX.out.four'
      have ltBX := BX.out.lt
      go_wp2_with fail
      (with_reducible refine (CL.out _ _ _ R1.out).mono ?_)
      rintro e w3 ⟨rfl, b3⟩
      clear c0 c1 c2 c3 ltBX
      replace BX := Lib.hid (BX.out.here b3)
      replace R0 := Lib.hid (R0.out.here b3)
      replace R1 := Lib.hid (R1.out.here b3)
      have ha3 : Below w3.heap.size w3 (w3.alloc (.cells #[.int .u32 (id : Int), .int .u32 (age : Int), .int .u32 (seq : Int), .int .i64 tail] 28)) := (Below.refl _ _).alloc (Nat.le_refl _) _
      replace BX := Lib.hid (BX.out.here ha3)
      replace R0 := Lib.hid (R0.out.here ha3)
      replace R1 := Lib.hid (R1.out.here ha3)
      have BL : Hid (Bx (w3.alloc (.cells #[.int .u32 (id : Int), .int .u32 (age : Int), .int .u32 (seq : Int), .int .i64 tail] 28)) w3.heap.size [.int .u32 (id : Int), .int .u32 (age : Int), .int .u32 (seq : Int), .int .i64 tail]) := Bx.new w3 [.int .u32 (id : Int), .int .u32 (age : Int), .int .u32 (seq : Int), .int .i64 tail] 28
      have B3 := Lib.hid (thence B2.out (thence b3 ha3 (Nat.le_refl _)) (Nat.le_refl _))
      clear ha3
      clear b3 B2
      obtain ⟨c0, c1, c2, c3⟩ := BX.out.four'
      have ltBX := BX.out.lt
      obtain ⟨d0, d1, d2, d3⟩ := BL.out.four'
      have ltBL := BL.out.lt
      go_wp2_with fail
      (with_reducible refine (CP.out _ _ _ _ R0.out).mono ?_)
      rintro e w4 ⟨rfl, b4⟩
      clear c0 c1 c2 c3 d0 d1 d2 d3 ltBX ltBL
      replace BX := Lib.hid (BX.out.here b4)
      replace R0 := Lib.hid (R0.out.here b4)
      replace R1 := Lib.hid (R1.out.here b4)
      replace BL := Lib.hid (BL.out.here b4)
      have ha4 : Below w4.heap.size w4 (w4.alloc (.cells #[.int .u32 (xi : Int), .int .u32 (xa : Int), .int .u32 (xs : Int), .int .i64 xt] 28)) := (Below.refl _ _).alloc (Nat.le_refl _) _
      replace BX := Lib.hid (BX.out.here ha4)
      replace R0 := Lib.hid (R0.out.here ha4)
      replace R1 := Lib.hid (R1.out.here ha4)
      replace BL := Lib.hid (BL.out.here ha4)
      have BM : Hid (Bx (w4.alloc (.cells #[.int .u32 (xi : Int), .int .u32 (xa : Int), .int .u32 (xs : Int), .int .i64 xt] 28)) w4.heap.size [.int .u32 (xi : Int), .int .u32 (xa : Int), .int .u32 (xs : Int), .int .i64 xt]) := Bx.new w4 [.int .u32 (xi : Int), .int .u32 (xa : Int), .int .u32 (xs : Int), .int .i64 xt] 28
      have B4 := Lib.hid (thence B3.out (thence b4 ha4 (Nat.le_refl _)) (Nat.le_refl _))
      clear ha4
      clear b4 B3
      obtain ⟨c0, c1, c2, c3⟩ := BX.out.four'
      have ltBX := BX.out.lt
      obtain ⟨d0, d1, d2, d3⟩ := BL.out.four'
      have ltBL := BL.out.lt
      obtain ⟨e0, e1, e2, e3⟩ := BM.out.four'
      have ltBM := BM.out.lt
      go_wp2_with fail
      (with_reducible refine (CX.out _).mono ?_)
      rintro e w5 ⟨a9, k9, rfl, r9, -, b5⟩
      clear c0 c1 c2 c3 d0 d1 d2 d3 e0 e1 e2 e3 ltBX ltBL ltBM
      replace BX := Lib.hid (BX.out.here b5)
      replace R0 := Lib.hid (R0.out.here b5)
      replace R1 := Lib.hid (R1.out.here b5)
      replace BL := Lib.hid (BL.out.here b5)
      replace BM := Lib.hid (BM.out.here b5)
      have B5 := Lib.hid (thence B4.out b5 (Nat.le_refl _))
      have R9 := Lib.hid r9
      clear r9
      clear b5 B4
      obtain ⟨c0, c1, c2, c3⟩ := BX.out.four'
      have ltBX := BX.out.lt
      obtain ⟨d0, d1, d2, d3⟩ := BL.out.four'
      have ltBL := BL.out.lt
      obtain ⟨e0, e1, e2, e3⟩ := BM.out.four'
      have ltBM := BM.out.lt
      have T9 := text_is w5 _ _ _ _ R9.out
      have T0 := text_is w5 _ _ _ _ R0.out
      go_wp2_with fail
      go_ret
      exact ⟨rfl, B5.out⟩
    | false =>
      have CW := Lib.hid (fun w1 => I.no id age seq tail w1 HI.out hm)
      clear hm
      go_enter Try.func5, Try.ntmps5
      go_wp2_with fail
      replace BX : Hid (Bx (w.alloc (.cells #[.int .u32 (id : Int), .int .u32 (age : Int), .int .u32 (seq : Int), .int .i64 tail] 28)) w.heap.size [.int .u32 (id : Int), .int .u32 (age : Int), .int .u32 (seq : Int), .int .i64 tail]) := BX
      generalize w.alloc (.cells #[.int .u32 (id : Int), .int .u32 (age : Int), .int .u32 (seq : Int), .int .i64 tail] 28) = W0 at *
      obtain ⟨c0, c1, c2, c3⟩ := BX.out.four'
      have ltBX := BX.out.lt
      have R0 := Lib.hid ((HR.out.below B0.out).mono B0.out.size)
      (with_reducible refine (CA.out _).mono ?_)
      rintro e w1 ⟨rfl, b1⟩
      clear c0 c1 c2 c3 ltBX
      replace BX := Lib.hid (BX.out.here b1)
      replace R0 := Lib.hid (R0.out.here b1)
      have B1 := Lib.hid (thence B0.out b1 (Nat.le_refl _))
      clear b1 B0
      obtain ⟨c0, c1, c2, c3⟩ := BX.out.four'
      have ltBX := BX.out.lt
      go_wp2_with fail
      (with_reducible refine (CW.out _).mono ?_)
      rintro e w2 ⟨a1, k1, rfl, -, b2⟩
      clear c0 c1 c2 c3 ltBX
      replace BX := Lib.hid (BX.out.here b2)
      replace R0 := Lib.hid (R0.out.here b2)
      have B2 := Lib.hid (thence B1.out b2 (Nat.le_refl _))
      clear b2 B1
      obtain ⟨c0, c1, c2, c3⟩ := BX.out.four'
      have ltBX := BX.out.lt
      go_wp2_with fail
      (with_reducible refine (CP.out _ _ _ _ R0.out).mono ?_)
      rintro e w3 ⟨rfl, b3⟩
      clear c0 c1 c2 c3 ltBX
      replace BX := Lib.hid (BX.out.here b3)
      replace R0 := Lib.hid (R0.out.here b3)
      have ha3 : Below w3.heap.size w3 (w3.alloc (.cells #[.int .u32 (xi : Int), .int .u32 (xa : Int), .int .u32 (xs : Int), .int .i64 xt] 28)) := (Below.refl _ _).alloc (Nat.le_refl _) _
      replace BX := Lib.hid (BX.out.here ha3)
      replace R0 := Lib.hid (R0.out.here ha3)
      have BM : Hid (Bx (w3.alloc (.cells #[.int .u32 (xi : Int), .int .u32 (xa : Int), .int .u32 (xs : Int), .int .i64 xt] 28)) w3.heap.size [.int .u32 (xi : Int), .int .u32 (xa : Int), .int .u32 (xs : Int), .int .i64 xt]) := Bx.new w3 [.int .u32 (xi : Int), .int .u32 (xa : Int), .int .u32 (xs : Int), .int .i64 xt] 28
      have B3 := Lib.hid (thence B2.out (thence b3 ha3 (Nat.le_refl _)) (Nat.le_refl _))
      clear ha3
      clear b3 B2
      obtain ⟨c0, c1, c2, c3⟩ := BX.out.four'
      have ltBX := BX.out.lt
      obtain ⟨e0, e1, e2, e3⟩ := BM.out.four'
      have ltBM := BM.out.lt
      go_wp2_with fail
      (with_reducible refine (CX.out _).mono ?_)
      rintro e w4 ⟨a9, k9, rfl, r9, -, b4⟩
      clear c0 c1 c2 c3 e0 e1 e2 e3 ltBX ltBM
      replace BX := Lib.hid (BX.out.here b4)
      replace R0 := Lib.hid (R0.out.here b4)
      replace BM := Lib.hid (BM.out.here b4)
      have B4 := Lib.hid (thence B3.out b4 (Nat.le_refl _))
      have R9 := Lib.hid r9
      clear r9
      clear b4 B3
      obtain ⟨c0, c1, c2, c3⟩ := BX.out.four'
      have ltBX := BX.out.lt
      obtain ⟨e0, e1, e2, e3⟩ := BM.out.four'
      have ltBM := BM.out.lt
      have T9 := text_is w4 _ _ _ _ R9.out
      have T0 := text_is w4 _ _ _ _ R0.out
      go_wp2_with fail
      go_ret
      exact ⟨rfl, B4.out⟩
  · injection hz with z0 z1 z2 z3
    subst z0 z1 z2 z3
    obtain ⟨n0, n1⟩ := h3 rfl
    have q0 : ((l.length : Int) == 0) = false := beq_eq_false_iff_ne.2 (fun e => n0 (by omega))
    have q1 : ((l.length : Int) == 128) = false := beq_eq_false_iff_ne.2 (fun e => n1 (by omega))
    have q2 : ((l.length : Int) != 0) = true := by rw [bne, q0]; rfl
    have q3 : ((l.length : Int) != 128) = true := by rw [bne, q1]; rfl
    have q4 : ¬ (l.length : Int) = 0 := fun e => n0 (by omega)
    have q5 : ¬ (l.length : Int) = 128 := fun e => n1 (by omega)
    have q6 : ¬ l.length = 0 := n0
    have q7 : ¬ l.length = 128 := n1
    clear hr hX hback hby hidx hid htx h3 h90 n0 n1
    generalize l.length = n at *
    cases hm : Sup.may ⟨id, age, seq, tail⟩ with
    | true =>
      have CW := Lib.hid (fun w1 => I.yes id age seq tail w1 HI.out (SB.may_iff.1 hm))
      have CL : Hid (∀ (a : Option Addr) (n : Nat) (w1 : World), Rd w1.heap.size w1 a 128 n (Sup.block ⟨id, age, seq, tail⟩) → Calls Try.prog 11 #[.slice a 128 n] w1 fun e w' => e = .returned (.tuple #[.agg #[.int .u32 (id : Int), .int .u32 (age : Int), .int .u32 (seq : Int), .int .i64 tail], .int .i64 0]) ∧ Below w1.heap.size w1 w') := fun a n w1 hr => by have := I.read a 128 n _ w1 hr; rw [SB.rd_block (SB.may_iff.1 hm) HI.out] at this; exact this
      generalize Sup.block ⟨id, age, seq, tail⟩ = K at *
      clear hm
      go_enter Try.func5, Try.ntmps5
      go_wp2_with fail
      replace BX : Hid (Bx (w.alloc (.cells #[.int .u32 (id : Int), .int .u32 (age : Int), .int .u32 (seq : Int), .int .i64 tail] 28)) w.heap.size [.int .u32 (id : Int), .int .u32 (age : Int), .int .u32 (seq : Int), .int .i64 tail]) := BX
      generalize w.alloc (.cells #[.int .u32 (id : Int), .int .u32 (age : Int), .int .u32 (seq : Int), .int .i64 tail] 28) = W0 at *
      obtain ⟨c0, c1, c2, c3⟩ := BX.out.four'
      have ltBX := BX.out.lt
      have R0 := Lib.hid ((HR.out.below B0.out).mono B0.out.size)
      (with_reducible refine (CA.out _).mono ?_)
      rintro e w1 ⟨rfl, b1⟩
      clear c0 c1 c2 c3 ltBX
      replace BX := Lib.hid (BX.out.here b1)
      replace R0 := Lib.hid (R0.out.here b1)
      have B1 := Lib.hid (thence B0.out b1 (Nat.le_refl _))
      clear b1 B0
      obtain ⟨c0, c1, c2, c3⟩ := BX.out.four'
      have ltBX := BX.out.lt
      go_wp2_with fail
      (with_reducible refine (CW.out _).mono ?_)
      rintro e w2 ⟨a1, k1, rfl, r1, -, b2⟩
      clear c0 c1 c2 c3 ltBX
      replace BX := Lib.hid (BX.out.here b2)
      replace R0 := Lib.hid (R0.out.here b2)
      have B2 := Lib.hid (thence B1.out b2 (Nat.le_refl _))
      have R1 := Lib.hid r1
      clear r1
      clear b2 B1
      obtain ⟨c0, c1, c2, c3⟩ := BX.out.four'
      have ltBX := BX.out.lt
      go_wp2_with fail
      (with_reducible refine (CL.out _ _ _ R1.out).mono ?_)
      rintro e w3 ⟨rfl, b3⟩
      clear c0 c1 c2 c3 ltBX
      replace BX := Lib.hid (BX.out.here b3)
      replace R0 := Lib.hid (R0.out.here b3)
      replace R1 := Lib.hid (R1.out.here b3)
      have ha3 : Below w3.heap.size w3 (w3.alloc (.cells #[.int .u32 (id : Int), .int .u32 (age : Int), .int .u32 (seq : Int), .int .i64 tail] 28)) := (Below.refl _ _).alloc (Nat.le_refl _) _
      replace BX := Lib.hid (BX.out.here ha3)
      replace R0 := Lib.hid (R0.out.here ha3)
      replace R1 := Lib.hid (R1.out.here ha3)
      have BL : Hid (Bx (w3.alloc (.cells #[.int .u32 (id : Int), .int .u32 (age : Int), .int .u32 (seq : Int), .int .i64 tail] 28)) w3.heap.size [.int .u32 (id : Int), .int .u32 (age : Int), .int .u32 (seq : Int), .int .i64 tail]) := Bx.new w3 [.int .u32 (id : Int), .int .u32 (age : Int), .int .u32 (seq : Int), .int .i64 tail] 28
      have B3 := Lib.hid (thence B2.out (thence b3 ha3 (Nat.le_refl _)) (Nat.le_refl _))
      clear ha3
      clear b3 B2
      obtain ⟨c0, c1, c2, c3⟩ := BX.out.four'
      have ltBX := BX.out.lt
      obtain ⟨d0, d1, d2, d3⟩ := BL.out.four'
      have ltBL := BL.out.lt
      go_wp2_with fail
      (with_reducible refine (CP.out _ _ _ _ R0.out).mono ?_)
      rintro e w4 ⟨rfl, b4⟩
      clear c0 c1 c2 c3 d0 d1 d2 d3 ltBX ltBL
      replace BX := Lib.hid (BX.out.here b4)
      replace R0 := Lib.hid (R0.out.here b4)
      replace R1 := Lib.hid (R1.out.here b4)
      replace BL := Lib.hid (BL.out.here b4)
      have ha4 : Below w4.heap.size w4 (w4.alloc (.cells #[.int .u32 0, .int .u32 0, .int .u32 0, .int .i64 0] 28)) := (Below.refl _ _).alloc (Nat.le_refl _) _
      replace BX := Lib.hid (BX.out.here ha4)
      replace R0 := Lib.hid (R0.out.here ha4)
      replace R1 := Lib.hid (R1.out.here ha4)
      replace BL := Lib.hid (BL.out.here ha4)
      have BM : Hid (Bx (w4.alloc (.cells #[.int .u32 0, .int .u32 0, .int .u32 0, .int .i64 0] 28)) w4.heap.size [.int .u32 0, .int .u32 0, .int .u32 0, .int .i64 0]) := Bx.new w4 [.int .u32 0, .int .u32 0, .int .u32 0, .int .i64 0] 28
      have B4 := Lib.hid (thence B3.out (thence b4 ha4 (Nat.le_refl _)) (Nat.le_refl _))
      clear ha4
      clear b4 B3
      obtain ⟨c0, c1, c2, c3⟩ := BX.out.four'
      have ltBX := BX.out.lt
      obtain ⟨d0, d1, d2, d3⟩ := BL.out.four'
      have ltBL := BL.out.lt
      obtain ⟨e0, e1, e2, e3⟩ := BM.out.four'
      have ltBM := BM.out.lt
      go_wp2_with fail
      go_ret
      exact ⟨rfl, B4.out⟩
    | false =>
      have CW := Lib.hid (fun w1 => I.no id age seq tail w1 HI.out hm)
      clear hm
      go_enter Try.func5, Try.ntmps5
      go_wp2_with fail
      replace BX : Hid (Bx (w.alloc (.cells #[.int .u32 (id : Int), .int .u32 (age : Int), .int .u32 (seq : Int), .int .i64 tail] 28)) w.heap.size [.int .u32 (id : Int), .int .u32 (age : Int), .int .u32 (seq : Int), .int .i64 tail]) := BX
      generalize w.alloc (.cells #[.int .u32 (id : Int), .int .u32 (age : Int), .int .u32 (seq : Int), .int .i64 tail] 28) = W0 at *
      obtain ⟨c0, c1, c2, c3⟩ := BX.out.four'
      have ltBX := BX.out.lt
      have R0 := Lib.hid ((HR.out.below B0.out).mono B0.out.size)
      (with_reducible refine (CA.out _).mono ?_)
      rintro e w1 ⟨rfl, b1⟩
      clear c0 c1 c2 c3 ltBX
      replace BX := Lib.hid (BX.out.here b1)
      replace R0 := Lib.hid (R0.out.here b1)
      have B1 := Lib.hid (thence B0.out b1 (Nat.le_refl _))
      clear b1 B0
      obtain ⟨c0, c1, c2, c3⟩ := BX.out.four'
      have ltBX := BX.out.lt
      go_wp2_with fail
      (with_reducible refine (CW.out _).mono ?_)
      rintro e w2 ⟨a1, k1, rfl, -, b2⟩
      clear c0 c1 c2 c3 ltBX
      replace BX := Lib.hid (BX.out.here b2)
      replace R0 := Lib.hid (R0.out.here b2)
      have B2 := Lib.hid (thence B1.out b2 (Nat.le_refl _))
      clear b2 B1
      obtain ⟨c0, c1, c2, c3⟩ := BX.out.four'
      have ltBX := BX.out.lt
      go_wp2_with fail
      (with_reducible refine (CP.out _ _ _ _ R0.out).mono ?_)
      rintro e w3 ⟨rfl, b3⟩
      clear c0 c1 c2 c3 ltBX
      replace BX := Lib.hid (BX.out.here b3)
      replace R0 := Lib.hid (R0.out.here b3)
      have ha3 : Below w3.heap.size w3 (w3.alloc (.cells #[.int .u32 0, .int .u32 0, .int .u32 0, .int .i64 0] 28)) := (Below.refl _ _).alloc (Nat.le_refl _) _
      replace BX := Lib.hid (BX.out.here ha3)
      replace R0 := Lib.hid (R0.out.here ha3)
      have BM : Hid (Bx (w3.alloc (.cells #[.int .u32 0, .int .u32 0, .int .u32 0, .int .i64 0] 28)) w3.heap.size [.int .u32 0, .int .u32 0, .int .u32 0, .int .i64 0]) := Bx.new w3 [.int .u32 0, .int .u32 0, .int .u32 0, .int .i64 0] 28
      have B3 := Lib.hid (thence B2.out (thence b3 ha3 (Nat.le_refl _)) (Nat.le_refl _))
      clear ha3
      clear b3 B2
      obtain ⟨c0, c1, c2, c3⟩ := BX.out.four'
      have ltBX := BX.out.lt
      obtain ⟨e0, e1, e2, e3⟩ := BM.out.four'
      have ltBM := BM.out.lt
      go_wp2_with fail
      go_ret
      exact ⟨rfl, B3.out⟩
  · injection hz with z0 z1 z2 z3
    subst z0 z1 z2 z3
    have hq := h90 rfl
    clear hX hback hby hidx hid htx h3 h90 hr
    generalize l.length = n at *
    rcases hq with hq | hq
    · subst hq
      cases hm : Sup.may ⟨id, age, seq, tail⟩ with
      | true =>
        have CW := Lib.hid (fun w1 => I.yes id age seq tail w1 HI.out (SB.may_iff.1 hm))
        have CL : Hid (∀ (a : Option Addr) (n : Nat) (w1 : World), Rd w1.heap.size w1 a 128 n (Sup.block ⟨id, age, seq, tail⟩) → Calls Try.prog 11 #[.slice a 128 n] w1 fun e w' => e = .returned (.tuple #[.agg #[.int .u32 (id : Int), .int .u32 (age : Int), .int .u32 (seq : Int), .int .i64 tail], .int .i64 0]) ∧ Below w1.heap.size w1 w') := fun a n w1 hr => by have := I.read a 128 n _ w1 hr; rw [SB.rd_block (SB.may_iff.1 hm) HI.out] at this; exact this
        generalize Sup.block ⟨id, age, seq, tail⟩ = K at *
        clear hm
        go_enter Try.func5, Try.ntmps5
        go_wp2_with fail
        replace BX : Hid (Bx (w.alloc (.cells #[.int .u32 (id : Int), .int .u32 (age : Int), .int .u32 (seq : Int), .int .i64 tail] 28)) w.heap.size [.int .u32 (id : Int), .int .u32 (age : Int), .int .u32 (seq : Int), .int .i64 tail]) := BX
        generalize w.alloc (.cells #[.int .u32 (id : Int), .int .u32 (age : Int), .int .u32 (seq : Int), .int .i64 tail] 28) = W0 at *
        obtain ⟨c0, c1, c2, c3⟩ := BX.out.four'
        have ltBX := BX.out.lt
        have R0 := Lib.hid ((HR.out.below B0.out).mono B0.out.size)
        (with_reducible refine (CA.out _).mono ?_)
        rintro e w1 ⟨rfl, b1⟩
        clear c0 c1 c2 c3 ltBX
        replace BX := Lib.hid (BX.out.here b1)
        replace R0 := Lib.hid (R0.out.here b1)
        have B1 := Lib.hid (thence B0.out b1 (Nat.le_refl _))
        clear b1 B0
        obtain ⟨c0, c1, c2, c3⟩ := BX.out.four'
        have ltBX := BX.out.lt
        go_wp2_with fail
        (with_reducible refine (CW.out _).mono ?_)
        rintro e w2 ⟨a1, k1, rfl, r1, -, b2⟩
        clear c0 c1 c2 c3 ltBX
        replace BX := Lib.hid (BX.out.here b2)
        replace R0 := Lib.hid (R0.out.here b2)
        have B2 := Lib.hid (thence B1.out b2 (Nat.le_refl _))
        have R1 := Lib.hid r1
        clear r1
        clear b2 B1
        obtain ⟨c0, c1, c2, c3⟩ := BX.out.four'
        have ltBX := BX.out.lt
        go_wp2_with fail
        (with_reducible refine (CL.out _ _ _ R1.out).mono ?_)
        rintro e w3 ⟨rfl, b3⟩
        clear c0 c1 c2 c3 ltBX
        replace BX := Lib.hid (BX.out.here b3)
        replace R0 := Lib.hid (R0.out.here b3)
        replace R1 := Lib.hid (R1.out.here b3)
        have ha3 : Below w3.heap.size w3 (w3.alloc (.cells #[.int .u32 (id : Int), .int .u32 (age : Int), .int .u32 (seq : Int), .int .i64 tail] 28)) := (Below.refl _ _).alloc (Nat.le_refl _) _
        replace BX := Lib.hid (BX.out.here ha3)
        replace R0 := Lib.hid (R0.out.here ha3)
        replace R1 := Lib.hid (R1.out.here ha3)
        have BL : Hid (Bx (w3.alloc (.cells #[.int .u32 (id : Int), .int .u32 (age : Int), .int .u32 (seq : Int), .int .i64 tail] 28)) w3.heap.size [.int .u32 (id : Int), .int .u32 (age : Int), .int .u32 (seq : Int), .int .i64 tail]) := Bx.new w3 [.int .u32 (id : Int), .int .u32 (age : Int), .int .u32 (seq : Int), .int .i64 tail] 28
        have B3 := Lib.hid (thence B2.out (thence b3 ha3 (Nat.le_refl _)) (Nat.le_refl _))
        clear ha3
        clear b3 B2
        obtain ⟨c0, c1, c2, c3⟩ := BX.out.four'
        have ltBX := BX.out.lt
        obtain ⟨d0, d1, d2, d3⟩ := BL.out.four'
        have ltBL := BL.out.lt
        go_wp2_with fail
        (with_reducible refine (CP.out _ _ _ _ R0.out).mono ?_)
        rintro e w4 ⟨rfl, b4⟩
        clear c0 c1 c2 c3 d0 d1 d2 d3 ltBX ltBL
        replace BX := Lib.hid (BX.out.here b4)
        replace R0 := Lib.hid (R0.out.here b4)
        replace R1 := Lib.hid (R1.out.here b4)
        replace BL := Lib.hid (BL.out.here b4)
        have ha4 : Below w4.heap.size w4 (w4.alloc (.cells #[.int .u32 0, .int .u32 0, .int .u32 0, .int .i64 0] 28)) := (Below.refl _ _).alloc (Nat.le_refl _) _
        replace BX := Lib.hid (BX.out.here ha4)
        replace R0 := Lib.hid (R0.out.here ha4)
        replace R1 := Lib.hid (R1.out.here ha4)
        replace BL := Lib.hid (BL.out.here ha4)
        have BM : Hid (Bx (w4.alloc (.cells #[.int .u32 0, .int .u32 0, .int .u32 0, .int .i64 0] 28)) w4.heap.size [.int .u32 0, .int .u32 0, .int .u32 0, .int .i64 0]) := Bx.new w4 [.int .u32 0, .int .u32 0, .int .u32 0, .int .i64 0] 28
        have B4 := Lib.hid (thence B3.out (thence b4 ha4 (Nat.le_refl _)) (Nat.le_refl _))
        clear ha4
        clear b4 B3
        obtain ⟨c0, c1, c2, c3⟩ := BX.out.four'
        have ltBX := BX.out.lt
        obtain ⟨d0, d1, d2, d3⟩ := BL.out.four'
        have ltBL := BL.out.lt
        obtain ⟨e0, e1, e2, e3⟩ := BM.out.four'
        have ltBM := BM.out.lt
        go_wp2_with fail
        go_ret
        exact ⟨rfl, B4.out⟩
      | false =>
        have CW := Lib.hid (fun w1 => I.no id age seq tail w1 HI.out hm)
        clear hm
        go_enter Try.func5, Try.ntmps5
        go_wp2_with fail
        replace BX : Hid (Bx (w.alloc (.cells #[.int .u32 (id : Int), .int .u32 (age : Int), .int .u32 (seq : Int), .int .i64 tail] 28)) w.heap.size [.int .u32 (id : Int), .int .u32 (age : Int), .int .u32 (seq : Int), .int .i64 tail]) := BX
        generalize w.alloc (.cells #[.int .u32 (id : Int), .int .u32 (age : Int), .int .u32 (seq : Int), .int .i64 tail] 28) = W0 at *
        obtain ⟨c0, c1, c2, c3⟩ := BX.out.four'
        have ltBX := BX.out.lt
        have R0 := Lib.hid ((HR.out.below B0.out).mono B0.out.size)
        (with_reducible refine (CA.out _).mono ?_)
        rintro e w1 ⟨rfl, b1⟩
        clear c0 c1 c2 c3 ltBX
        replace BX := Lib.hid (BX.out.here b1)
        replace R0 := Lib.hid (R0.out.here b1)
        have B1 := Lib.hid (thence B0.out b1 (Nat.le_refl _))
        clear b1 B0
        obtain ⟨c0, c1, c2, c3⟩ := BX.out.four'
        have ltBX := BX.out.lt
        go_wp2_with fail
        (with_reducible refine (CW.out _).mono ?_)
        rintro e w2 ⟨a1, k1, rfl, -, b2⟩
        clear c0 c1 c2 c3 ltBX
        replace BX := Lib.hid (BX.out.here b2)
        replace R0 := Lib.hid (R0.out.here b2)
        have B2 := Lib.hid (thence B1.out b2 (Nat.le_refl _))
        clear b2 B1
        obtain ⟨c0, c1, c2, c3⟩ := BX.out.four'
        have ltBX := BX.out.lt
        go_wp2_with fail
        (with_reducible refine (CP.out _ _ _ _ R0.out).mono ?_)
        rintro e w3 ⟨rfl, b3⟩
        clear c0 c1 c2 c3 ltBX
        replace BX := Lib.hid (BX.out.here b3)
        replace R0 := Lib.hid (R0.out.here b3)
        have ha3 : Below w3.heap.size w3 (w3.alloc (.cells #[.int .u32 0, .int .u32 0, .int .u32 0, .int .i64 0] 28)) := (Below.refl _ _).alloc (Nat.le_refl _) _
        replace BX := Lib.hid (BX.out.here ha3)
        replace R0 := Lib.hid (R0.out.here ha3)
        have BM : Hid (Bx (w3.alloc (.cells #[.int .u32 0, .int .u32 0, .int .u32 0, .int .i64 0] 28)) w3.heap.size [.int .u32 0, .int .u32 0, .int .u32 0, .int .i64 0]) := Bx.new w3 [.int .u32 0, .int .u32 0, .int .u32 0, .int .i64 0] 28
        have B3 := Lib.hid (thence B2.out (thence b3 ha3 (Nat.le_refl _)) (Nat.le_refl _))
        clear ha3
        clear b3 B2
        obtain ⟨c0, c1, c2, c3⟩ := BX.out.four'
        have ltBX := BX.out.lt
        obtain ⟨e0, e1, e2, e3⟩ := BM.out.four'
        have ltBM := BM.out.lt
        go_wp2_with fail
        go_ret
        exact ⟨rfl, B3.out⟩
    · subst hq
      cases hm : Sup.may ⟨id, age, seq, tail⟩ with
      | true =>
        have CW := Lib.hid (fun w1 => I.yes id age seq tail w1 HI.out (SB.may_iff.1 hm))
        have CL : Hid (∀ (a : Option Addr) (n : Nat) (w1 : World), Rd w1.heap.size w1 a 128 n (Sup.block ⟨id, age, seq, tail⟩) → Calls Try.prog 11 #[.slice a 128 n] w1 fun e w' => e = .returned (.tuple #[.agg #[.int .u32 (id : Int), .int .u32 (age : Int), .int .u32 (seq : Int), .int .i64 tail], .int .i64 0]) ∧ Below w1.heap.size w1 w') := fun a n w1 hr => by have := I.read a 128 n _ w1 hr; rw [SB.rd_block (SB.may_iff.1 hm) HI.out] at this; exact this
        generalize Sup.block ⟨id, age, seq, tail⟩ = K at *
        clear hm
        go_enter Try.func5, Try.ntmps5
        go_wp2_with fail
        replace BX : Hid (Bx (w.alloc (.cells #[.int .u32 (id : Int), .int .u32 (age : Int), .int .u32 (seq : Int), .int .i64 tail] 28)) w.heap.size [.int .u32 (id : Int), .int .u32 (age : Int), .int .u32 (seq : Int), .int .i64 tail]) := BX
        generalize w.alloc (.cells #[.int .u32 (id : Int), .int .u32 (age : Int), .int .u32 (seq : Int), .int .i64 tail] 28) = W0 at *
        obtain ⟨c0, c1, c2, c3⟩ := BX.out.four'
        have ltBX := BX.out.lt
        have R0 := Lib.hid ((HR.out.below B0.out).mono B0.out.size)
        (with_reducible refine (CA.out _).mono ?_)
        rintro e w1 ⟨rfl, b1⟩
        clear c0 c1 c2 c3 ltBX
        replace BX := Lib.hid (BX.out.here b1)
        replace R0 := Lib.hid (R0.out.here b1)
        have B1 := Lib.hid (thence B0.out b1 (Nat.le_refl _))
        clear b1 B0
        obtain ⟨c0, c1, c2, c3⟩ := BX.out.four'
        have ltBX := BX.out.lt
        go_wp2_with fail
        (with_reducible refine (CW.out _).mono ?_)
        rintro e w2 ⟨a1, k1, rfl, r1, -, b2⟩
        clear c0 c1 c2 c3 ltBX
        replace BX := Lib.hid (BX.out.here b2)
        replace R0 := Lib.hid (R0.out.here b2)
        have B2 := Lib.hid (thence B1.out b2 (Nat.le_refl _))
        have R1 := Lib.hid r1
        clear r1
        clear b2 B1
        obtain ⟨c0, c1, c2, c3⟩ := BX.out.four'
        have ltBX := BX.out.lt
        go_wp2_with fail
        (with_reducible refine (CL.out _ _ _ R1.out).mono ?_)
        rintro e w3 ⟨rfl, b3⟩
        clear c0 c1 c2 c3 ltBX
        replace BX := Lib.hid (BX.out.here b3)
        replace R0 := Lib.hid (R0.out.here b3)
        replace R1 := Lib.hid (R1.out.here b3)
        have ha3 : Below w3.heap.size w3 (w3.alloc (.cells #[.int .u32 (id : Int), .int .u32 (age : Int), .int .u32 (seq : Int), .int .i64 tail] 28)) := (Below.refl _ _).alloc (Nat.le_refl _) _
        replace BX := Lib.hid (BX.out.here ha3)
        replace R0 := Lib.hid (R0.out.here ha3)
        replace R1 := Lib.hid (R1.out.here ha3)
        have BL : Hid (Bx (w3.alloc (.cells #[.int .u32 (id : Int), .int .u32 (age : Int), .int .u32 (seq : Int), .int .i64 tail] 28)) w3.heap.size [.int .u32 (id : Int), .int .u32 (age : Int), .int .u32 (seq : Int), .int .i64 tail]) := Bx.new w3 [.int .u32 (id : Int), .int .u32 (age : Int), .int .u32 (seq : Int), .int .i64 tail] 28
        have B3 := Lib.hid (thence B2.out (thence b3 ha3 (Nat.le_refl _)) (Nat.le_refl _))
        clear ha3
        clear b3 B2
        obtain ⟨c0, c1, c2, c3⟩ := BX.out.four'
        have ltBX := BX.out.lt
        obtain ⟨d0, d1, d2, d3⟩ := BL.out.four'
        have ltBL := BL.out.lt
        go_wp2_with fail
        (with_reducible refine (CP.out _ _ _ _ R0.out).mono ?_)
        rintro e w4 ⟨rfl, b4⟩
        clear c0 c1 c2 c3 d0 d1 d2 d3 ltBX ltBL
        replace BX := Lib.hid (BX.out.here b4)
        replace R0 := Lib.hid (R0.out.here b4)
        replace R1 := Lib.hid (R1.out.here b4)
        replace BL := Lib.hid (BL.out.here b4)
        have ha4 : Below w4.heap.size w4 (w4.alloc (.cells #[.int .u32 0, .int .u32 0, .int .u32 0, .int .i64 0] 28)) := (Below.refl _ _).alloc (Nat.le_refl _) _
        replace BX := Lib.hid (BX.out.here ha4)
        replace R0 := Lib.hid (R0.out.here ha4)
        replace R1 := Lib.hid (R1.out.here ha4)
        replace BL := Lib.hid (BL.out.here ha4)
        have BM : Hid (Bx (w4.alloc (.cells #[.int .u32 0, .int .u32 0, .int .u32 0, .int .i64 0] 28)) w4.heap.size [.int .u32 0, .int .u32 0, .int .u32 0, .int .i64 0]) := Bx.new w4 [.int .u32 0, .int .u32 0, .int .u32 0, .int .i64 0] 28
        have B4 := Lib.hid (thence B3.out (thence b4 ha4 (Nat.le_refl _)) (Nat.le_refl _))
        clear ha4
        clear b4 B3
        obtain ⟨c0, c1, c2, c3⟩ := BX.out.four'
        have ltBX := BX.out.lt
        obtain ⟨d0, d1, d2, d3⟩ := BL.out.four'
        have ltBL := BL.out.lt
        obtain ⟨e0, e1, e2, e3⟩ := BM.out.four'
        have ltBM := BM.out.lt
        go_wp2_with fail
        go_ret
        exact ⟨rfl, B4.out⟩
      | false =>
        have CW := Lib.hid (fun w1 => I.no id age seq tail w1 HI.out hm)
        clear hm
        go_enter Try.func5, Try.ntmps5
        go_wp2_with fail
        replace BX : Hid (Bx (w.alloc (.cells #[.int .u32 (id : Int), .int .u32 (age : Int), .int .u32 (seq : Int), .int .i64 tail] 28)) w.heap.size [.int .u32 (id : Int), .int .u32 (age : Int), .int .u32 (seq : Int), .int .i64 tail]) := BX
        generalize w.alloc (.cells #[.int .u32 (id : Int), .int .u32 (age : Int), .int .u32 (seq : Int), .int .i64 tail] 28) = W0 at *
        obtain ⟨c0, c1, c2, c3⟩ := BX.out.four'
        have ltBX := BX.out.lt
        have R0 := Lib.hid ((HR.out.below B0.out).mono B0.out.size)
        (with_reducible refine (CA.out _).mono ?_)
        rintro e w1 ⟨rfl, b1⟩
        clear c0 c1 c2 c3 ltBX
        replace BX := Lib.hid (BX.out.here b1)
        replace R0 := Lib.hid (R0.out.here b1)
        have B1 := Lib.hid (thence B0.out b1 (Nat.le_refl _))
        clear b1 B0
        obtain ⟨c0, c1, c2, c3⟩ := BX.out.four'
        have ltBX := BX.out.lt
        go_wp2_with fail
        (with_reducible refine (CW.out _).mono ?_)
        rintro e w2 ⟨a1, k1, rfl, -, b2⟩
        clear c0 c1 c2 c3 ltBX
        replace BX := Lib.hid (BX.out.here b2)
        replace R0 := Lib.hid (R0.out.here b2)
        have B2 := Lib.hid (thence B1.out b2 (Nat.le_refl _))
        clear b2 B1
        obtain ⟨c0, c1, c2, c3⟩ := BX.out.four'
        have ltBX := BX.out.lt
        go_wp2_with fail
        (with_reducible refine (CP.out _ _ _ _ R0.out).mono ?_)
        rintro e w3 ⟨rfl, b3⟩
        clear c0 c1 c2 c3 ltBX
        replace BX := Lib.hid (BX.out.here b3)
        replace R0 := Lib.hid (R0.out.here b3)
        have ha3 : Below w3.heap.size w3 (w3.alloc (.cells #[.int .u32 0, .int .u32 0, .int .u32 0, .int .i64 0] 28)) := (Below.refl _ _).alloc (Nat.le_refl _) _
        replace BX := Lib.hid (BX.out.here ha3)
        replace R0 := Lib.hid (R0.out.here ha3)
        have BM : Hid (Bx (w3.alloc (.cells #[.int .u32 0, .int .u32 0, .int .u32 0, .int .i64 0] 28)) w3.heap.size [.int .u32 0, .int .u32 0, .int .u32 0, .int .i64 0]) := Bx.new w3 [.int .u32 0, .int .u32 0, .int .u32 0, .int .i64 0] 28
        have B3 := Lib.hid (thence B2.out (thence b3 ha3 (Nat.le_refl _)) (Nat.le_refl _))
        clear ha3
        clear b3 B2
        obtain ⟨c0, c1, c2, c3⟩ := BX.out.four'
        have ltBX := BX.out.lt
        obtain ⟨e0, e1, e2, e3⟩ := BM.out.four'
        have ltBM := BM.out.lt
        go_wp2_with fail
        go_ret
        exact ⟨rfl, B3.out⟩
end Go.Proofs.Ytjdcnajppjamgaa.PW
