/-
  Layer 9's laws, given what the program's calls answer.
-/
import Derived.Test.YtleaphlignfkjaaLabelLaws
namespace Go.Proofs.Ytleaphlignfkjaa.PW
open Go.RowKit
open SK (Cfg)
open LB (Lab)
set_option linter.unusedVariables false
set_option linter.unusedSimpArgs false
set_option maxRecDepth 100000

set_option maxHeartbeats 2000000 in
theorem labelBack_walk (I : LabelIs) (id ev : Nat) (mem chunk rows log me lost done : Int) (op : Bool) (a : Option Addr) (len cap : Nat) (l : List Nat) (w : World) (hid : id < 4294967296) (hr : Rd w.heap.size w a len cap l) :
    Calls Try.prog 6 #[.agg #[.int .u32 (id : Int), .int .u32 (ev : Int), .int .i64 mem, .int .i64 chunk, .int .i64 rows, .int .i64 log, .int .i64 me, .int .i64 lost, .int .i64 done, .bool op], .slice a len cap] w fun e w' => e = .returned (.bool true) ∧ Below w.heap.size w w' := by
  have CA : Hid (∀ w1, Calls Try.prog 13 #[] w1 fun e w' => e = .returned (.bool true) ∧ Below w1.heap.size w1 w') := alive9_any I
  obtain rfl := hr.long
  have hsm := hr.small
  have hby := hr.byt
  unfold maxLen at hsm
  have B0 : Hid (Below w.heap.size w (w.alloc (.cells #[.int .u32 (id : Int), .int .u32 (ev : Int), .int .i64 mem, .int .i64 chunk, .int .i64 rows, .int .i64 log, .int .i64 me, .int .i64 lost, .int .i64 done, .bool op] 28))) := (Below.refl _ _).alloc (Nat.le_refl _) _
  have BX := Lib.hid (Bx.new w [.int .u32 (id : Int), .int .u32 (ev : Int), .int .i64 mem, .int .i64 chunk, .int .i64 rows, .int .i64 log, .int .i64 me, .int .i64 lost, .int .i64 done, .bool op] 28)
  by_cases hbig : 1000 < l.length
  · have hb1 : (1000 : Int) < l.length := by omega
    have HR := Lib.hid hr
    clear hr hby
    generalize l.length = n at *
    go_enter Try.func6, Try.ntmps6
    go_wp2_with fail
    replace BX : Hid (Bx (w.alloc (.cells #[.int .u32 (id : Int), .int .u32 (ev : Int), .int .i64 mem, .int .i64 chunk, .int .i64 rows, .int .i64 log, .int .i64 me, .int .i64 lost, .int .i64 done, .bool op] 28)) w.heap.size [.int .u32 (id : Int), .int .u32 (ev : Int), .int .i64 mem, .int .i64 chunk, .int .i64 rows, .int .i64 log, .int .i64 me, .int .i64 lost, .int .i64 done, .bool op]) := BX
    generalize w.alloc (.cells #[.int .u32 (id : Int), .int .u32 (ev : Int), .int .i64 mem, .int .i64 chunk, .int .i64 rows, .int .i64 log, .int .i64 me, .int .i64 lost, .int .i64 done, .bool op] 28) = W0 at *
    obtain ⟨c0, c1, c2, c3, c4, c5, c6, c7, c8, c9⟩ := BX.out.ten
    have ltBX := BX.out.lt
    have R0 := Lib.hid ((HR.out.below B0.out).mono B0.out.size)
    (with_reducible refine (CA.out _).mono ?_)
    rintro e w1 ⟨rfl, b1⟩
    clear c0 c1 c2 c3 c4 c5 c6 c7 c8 c9 ltBX
    replace BX := Lib.hid (BX.out.here b1)
    replace R0 := Lib.hid (R0.out.here b1)
    have B1 := Lib.hid (thence B0.out b1 (Nat.le_refl _))
    clear b1 B0
    obtain ⟨c0, c1, c2, c3, c4, c5, c6, c7, c8, c9⟩ := BX.out.ten
    have ltBX := BX.out.lt
    go_wp2_with fail
    go_ret
    exact ⟨rfl, B1.out⟩
  have hb1 : ¬ (1000 : Int) < l.length := by omega
  have HI := Lib.hid hid
  obtain ⟨⟨i, v, m, c, r, g, me', lo, dn, op'⟩, cd, hX⟩ : ∃ X cd, LB.rd l = (X, cd) := ⟨_, _, rfl⟩
  have CP : Hid (∀ (a : Option Addr) (n k : Nat) (w1 : World), Rd w1.heap.size w1 a n k l → Calls Try.prog 12 #[.slice a n k] w1 fun e w' => e = .returned (.tuple #[.agg #[.int .u32 (i : Int), .int .u32 (v : Int), .int .i64 m, .int .i64 c, .int .i64 r, .int .i64 g, .int .i64 me', .int .i64 lo, .int .i64 dn, .bool op'], .int .i64 (cd : Int)]) ∧ Below w1.heap.size w1 w') := fun a n k w1 hr => by have := I.read a n k l w1 hr; rw [hX] at this; exact this
  have hcd := LB.rd_code l
  have hback := @LB.rd_back l
  have hidx := LB.rd_id hby
  rw [hX] at hcd hback hidx
  dsimp only at hcd hback hidx
  have HR := Lib.hid hr
  rcases hcd with rfl | ⟨rfl, hz⟩ | ⟨rfl, hz⟩
  · obtain ⟨hxm, hxb, hxl⟩ := hback rfl
    have CX : Hid (∀ w1, Calls Try.prog 10 #[.agg #[.int .u32 (i : Int), .int .u32 (v : Int), .int .i64 m, .int .i64 c, .int .i64 r, .int .i64 g, .int .i64 me', .int .i64 lo, .int .i64 dn, .bool op']] w1 fun e w' => ∃ a c, e = .returned (.tuple #[.slice a 128 c, .int .i64 0]) ∧ Rd w'.heap.size w' a 128 c l ∧ Mine w1.heap.size w' a ∧ Below w1.heap.size w1 w') := fun w1 => by have := I.yes i v m c r g me' lo dn op' w1 hidx hxm; rw [hxb] at this; exact this
    clear hr hX hback hxm hxb hxl hby hidx hid
    generalize l.length = n at *
    cases hm : Lab.may ⟨id, ev, mem, chunk, rows, log, me, lost, done, op⟩ with
    | true =>
      have CW := Lib.hid (fun w1 => I.yes id ev mem chunk rows log me lost done op w1 HI.out (LB.may_iff.1 hm))
      have CL : Hid (∀ (a : Option Addr) (n : Nat) (w1 : World), Rd w1.heap.size w1 a 128 n (Lab.block ⟨id, ev, mem, chunk, rows, log, me, lost, done, op⟩) → Calls Try.prog 12 #[.slice a 128 n] w1 fun e w' => e = .returned (.tuple #[.agg #[.int .u32 (id : Int), .int .u32 (ev : Int), .int .i64 mem, .int .i64 chunk, .int .i64 rows, .int .i64 log, .int .i64 me, .int .i64 lost, .int .i64 done, .bool op], .int .i64 0]) ∧ Below w1.heap.size w1 w') := fun a n w1 hr => by have := I.read a 128 n _ w1 hr; rw [LB.rd_block (LB.may_iff.1 hm) HI.out] at this; exact this
      generalize Lab.block ⟨id, ev, mem, chunk, rows, log, me, lost, done, op⟩ = K at *
      clear hm
      go_enter Try.func6, Try.ntmps6
      go_wp2_with fail
      replace BX : Hid (Bx (w.alloc (.cells #[.int .u32 (id : Int), .int .u32 (ev : Int), .int .i64 mem, .int .i64 chunk, .int .i64 rows, .int .i64 log, .int .i64 me, .int .i64 lost, .int .i64 done, .bool op] 28)) w.heap.size [.int .u32 (id : Int), .int .u32 (ev : Int), .int .i64 mem, .int .i64 chunk, .int .i64 rows, .int .i64 log, .int .i64 me, .int .i64 lost, .int .i64 done, .bool op]) := BX
      generalize w.alloc (.cells #[.int .u32 (id : Int), .int .u32 (ev : Int), .int .i64 mem, .int .i64 chunk, .int .i64 rows, .int .i64 log, .int .i64 me, .int .i64 lost, .int .i64 done, .bool op] 28) = W0 at *
      obtain ⟨c0, c1, c2, c3, c4, c5, c6, c7, c8, c9⟩ := BX.out.ten
      have ltBX := BX.out.lt
      have R0 := Lib.hid ((HR.out.below B0.out).mono B0.out.size)
      (with_reducible refine (CA.out _).mono ?_)
      rintro e w1 ⟨rfl, b1⟩
      clear c0 c1 c2 c3 c4 c5 c6 c7 c8 c9 ltBX
      replace BX := Lib.hid (BX.out.here b1)
      replace R0 := Lib.hid (R0.out.here b1)
      have B1 := Lib.hid (thence B0.out b1 (Nat.le_refl _))
      clear b1 B0
      obtain ⟨c0, c1, c2, c3, c4, c5, c6, c7, c8, c9⟩ := BX.out.ten
      have ltBX := BX.out.lt
      go_wp2_with fail
      (with_reducible refine (CW.out _).mono ?_)
      rintro e w2 ⟨a1, k1, rfl, r1, -, b2⟩
      clear c0 c1 c2 c3 c4 c5 c6 c7 c8 c9 ltBX
      replace BX := Lib.hid (BX.out.here b2)
      replace R0 := Lib.hid (R0.out.here b2)
      have B2 := Lib.hid (thence B1.out b2 (Nat.le_refl _))
      have R1 := Lib.hid r1
      clear r1
      clear b2 B1
      obtain ⟨c0, c1, c2, c3, c4, c5, c6, c7, c8, c9⟩ := BX.out.ten
      have ltBX := BX.out.lt
      go_wp2_with fail
      (with_reducible refine (CL.out _ _ _ R1.out).mono ?_)
      rintro e w3 ⟨rfl, b3⟩
      clear c0 c1 c2 c3 c4 c5 c6 c7 c8 c9 ltBX
      replace BX := Lib.hid (BX.out.here b3)
      replace R0 := Lib.hid (R0.out.here b3)
      replace R1 := Lib.hid (R1.out.here b3)
      have ha3 : Below w3.heap.size w3 (w3.alloc (.cells #[.int .u32 (id : Int), .int .u32 (ev : Int), .int .i64 mem, .int .i64 chunk, .int .i64 rows, .int .i64 log, .int .i64 me, .int .i64 lost, .int .i64 done, .bool op] 28)) := (Below.refl _ _).alloc (Nat.le_refl _) _
      replace BX := Lib.hid (BX.out.here ha3)
      replace R0 := Lib.hid (R0.out.here ha3)
      replace R1 := Lib.hid (R1.out.here ha3)
      have BL : Hid (Bx (w3.alloc (.cells #[.int .u32 (id : Int), .int .u32 (ev : Int), .int .i64 mem, .int .i64 chunk, .int .i64 rows, .int .i64 log, .int .i64 me, .int .i64 lost, .int .i64 done, .bool op] 28)) w3.heap.size [.int .u32 (id : Int), .int .u32 (ev : Int), .int .i64 mem, .int .i64 chunk, .int .i64 rows, .int .i64 log, .int .i64 me, .int .i64 lost, .int .i64 done, .bool op]) := Bx.new w3 [.int .u32 (id : Int), .int .u32 (ev : Int), .int .i64 mem, .int .i64 chunk, .int .i64 rows, .int .i64 log, .int .i64 me, .int .i64 lost, .int .i64 done, .bool op] 28
      have B3 := Lib.hid (thence B2.out (thence b3 ha3 (Nat.le_refl _)) (Nat.le_refl _))
      clear ha3
      clear b3 B2
      obtain ⟨c0, c1, c2, c3, c4, c5, c6, c7, c8, c9⟩ := BX.out.ten
      have ltBX := BX.out.lt
      obtain ⟨d0, d1, d2, d3, d4, d5, d6, d7, d8, d9⟩ := BL.out.ten
      have ltBL := BL.out.lt
      go_wp2_with fail
      (with_reducible refine (CP.out _ _ _ _ R0.out).mono ?_)
      rintro e w4 ⟨rfl, b4⟩
      clear c0 c1 c2 c3 c4 c5 c6 c7 c8 c9 d0 d1 d2 d3 d4 d5 d6 d7 d8 d9 ltBX ltBL
      replace BX := Lib.hid (BX.out.here b4)
      replace R0 := Lib.hid (R0.out.here b4)
      replace R1 := Lib.hid (R1.out.here b4)
      replace BL := Lib.hid (BL.out.here b4)
      have ha4 : Below w4.heap.size w4 (w4.alloc (.cells #[.int .u32 (i : Int), .int .u32 (v : Int), .int .i64 m, .int .i64 c, .int .i64 r, .int .i64 g, .int .i64 me', .int .i64 lo, .int .i64 dn, .bool op'] 28)) := (Below.refl _ _).alloc (Nat.le_refl _) _
      replace BX := Lib.hid (BX.out.here ha4)
      replace R0 := Lib.hid (R0.out.here ha4)
      replace R1 := Lib.hid (R1.out.here ha4)
      replace BL := Lib.hid (BL.out.here ha4)
      have BM : Hid (Bx (w4.alloc (.cells #[.int .u32 (i : Int), .int .u32 (v : Int), .int .i64 m, .int .i64 c, .int .i64 r, .int .i64 g, .int .i64 me', .int .i64 lo, .int .i64 dn, .bool op'] 28)) w4.heap.size [.int .u32 (i : Int), .int .u32 (v : Int), .int .i64 m, .int .i64 c, .int .i64 r, .int .i64 g, .int .i64 me', .int .i64 lo, .int .i64 dn, .bool op']) := Bx.new w4 [.int .u32 (i : Int), .int .u32 (v : Int), .int .i64 m, .int .i64 c, .int .i64 r, .int .i64 g, .int .i64 me', .int .i64 lo, .int .i64 dn, .bool op'] 28
      have B4 := Lib.hid (thence B3.out (thence b4 ha4 (Nat.le_refl _)) (Nat.le_refl _))
      clear ha4
      clear b4 B3
      obtain ⟨c0, c1, c2, c3, c4, c5, c6, c7, c8, c9⟩ := BX.out.ten
      have ltBX := BX.out.lt
      obtain ⟨d0, d1, d2, d3, d4, d5, d6, d7, d8, d9⟩ := BL.out.ten
      have ltBL := BL.out.lt
      obtain ⟨e0, e1, e2, e3, e4, e5, e6, e7, e8, e9⟩ := BM.out.ten
      have ltBM := BM.out.lt
      go_wp2_with fail
      (with_reducible refine (CX.out _).mono ?_)
      rintro e w5 ⟨a9, k9, rfl, r9, -, b5⟩
      clear c0 c1 c2 c3 c4 c5 c6 c7 c8 c9 d0 d1 d2 d3 d4 d5 d6 d7 d8 d9 e0 e1 e2 e3 e4 e5 e6 e7 e8 e9 ltBX ltBL ltBM
      replace BX := Lib.hid (BX.out.here b5)
      replace R0 := Lib.hid (R0.out.here b5)
      replace R1 := Lib.hid (R1.out.here b5)
      replace BL := Lib.hid (BL.out.here b5)
      replace BM := Lib.hid (BM.out.here b5)
      have B5 := Lib.hid (thence B4.out b5 (Nat.le_refl _))
      have R9 := Lib.hid r9
      clear r9
      clear b5 B4
      obtain ⟨c0, c1, c2, c3, c4, c5, c6, c7, c8, c9⟩ := BX.out.ten
      have ltBX := BX.out.lt
      obtain ⟨d0, d1, d2, d3, d4, d5, d6, d7, d8, d9⟩ := BL.out.ten
      have ltBL := BL.out.lt
      obtain ⟨e0, e1, e2, e3, e4, e5, e6, e7, e8, e9⟩ := BM.out.ten
      have ltBM := BM.out.lt
      have T9 := text_is w5 _ _ _ _ R9.out
      have T0 := text_is w5 _ _ _ _ R0.out
      go_wp2_with fail
      go_ret
      exact ⟨rfl, B5.out⟩
    | false =>
      have CW := Lib.hid (fun w1 => I.no id ev mem chunk rows log me lost done op w1 HI.out hm)
      clear hm
      go_enter Try.func6, Try.ntmps6
      go_wp2_with fail
      replace BX : Hid (Bx (w.alloc (.cells #[.int .u32 (id : Int), .int .u32 (ev : Int), .int .i64 mem, .int .i64 chunk, .int .i64 rows, .int .i64 log, .int .i64 me, .int .i64 lost, .int .i64 done, .bool op] 28)) w.heap.size [.int .u32 (id : Int), .int .u32 (ev : Int), .int .i64 mem, .int .i64 chunk, .int .i64 rows, .int .i64 log, .int .i64 me, .int .i64 lost, .int .i64 done, .bool op]) := BX
      generalize w.alloc (.cells #[.int .u32 (id : Int), .int .u32 (ev : Int), .int .i64 mem, .int .i64 chunk, .int .i64 rows, .int .i64 log, .int .i64 me, .int .i64 lost, .int .i64 done, .bool op] 28) = W0 at *
      obtain ⟨c0, c1, c2, c3, c4, c5, c6, c7, c8, c9⟩ := BX.out.ten
      have ltBX := BX.out.lt
      have R0 := Lib.hid ((HR.out.below B0.out).mono B0.out.size)
      (with_reducible refine (CA.out _).mono ?_)
      rintro e w1 ⟨rfl, b1⟩
      clear c0 c1 c2 c3 c4 c5 c6 c7 c8 c9 ltBX
      replace BX := Lib.hid (BX.out.here b1)
      replace R0 := Lib.hid (R0.out.here b1)
      have B1 := Lib.hid (thence B0.out b1 (Nat.le_refl _))
      clear b1 B0
      obtain ⟨c0, c1, c2, c3, c4, c5, c6, c7, c8, c9⟩ := BX.out.ten
      have ltBX := BX.out.lt
      go_wp2_with fail
      (with_reducible refine (CW.out _).mono ?_)
      rintro e w2 ⟨a1, k1, rfl, -, b2⟩
      clear c0 c1 c2 c3 c4 c5 c6 c7 c8 c9 ltBX
      replace BX := Lib.hid (BX.out.here b2)
      replace R0 := Lib.hid (R0.out.here b2)
      have B2 := Lib.hid (thence B1.out b2 (Nat.le_refl _))
      clear b2 B1
      obtain ⟨c0, c1, c2, c3, c4, c5, c6, c7, c8, c9⟩ := BX.out.ten
      have ltBX := BX.out.lt
      go_wp2_with fail
      (with_reducible refine (CP.out _ _ _ _ R0.out).mono ?_)
      rintro e w3 ⟨rfl, b3⟩
      clear c0 c1 c2 c3 c4 c5 c6 c7 c8 c9 ltBX
      replace BX := Lib.hid (BX.out.here b3)
      replace R0 := Lib.hid (R0.out.here b3)
      have ha3 : Below w3.heap.size w3 (w3.alloc (.cells #[.int .u32 (i : Int), .int .u32 (v : Int), .int .i64 m, .int .i64 c, .int .i64 r, .int .i64 g, .int .i64 me', .int .i64 lo, .int .i64 dn, .bool op'] 28)) := (Below.refl _ _).alloc (Nat.le_refl _) _
      replace BX := Lib.hid (BX.out.here ha3)
      replace R0 := Lib.hid (R0.out.here ha3)
      have BM : Hid (Bx (w3.alloc (.cells #[.int .u32 (i : Int), .int .u32 (v : Int), .int .i64 m, .int .i64 c, .int .i64 r, .int .i64 g, .int .i64 me', .int .i64 lo, .int .i64 dn, .bool op'] 28)) w3.heap.size [.int .u32 (i : Int), .int .u32 (v : Int), .int .i64 m, .int .i64 c, .int .i64 r, .int .i64 g, .int .i64 me', .int .i64 lo, .int .i64 dn, .bool op']) := Bx.new w3 [.int .u32 (i : Int), .int .u32 (v : Int), .int .i64 m, .int .i64 c, .int .i64 r, .int .i64 g, .int .i64 me', .int .i64 lo, .int .i64 dn, .bool op'] 28
      have B3 := Lib.hid (thence B2.out (thence b3 ha3 (Nat.le_refl _)) (Nat.le_refl _))
      clear ha3
      clear b3 B2
      obtain ⟨c0, c1, c2, c3, c4, c5, c6, c7, c8, c9⟩ := BX.out.ten
      have ltBX := BX.out.lt
      obtain ⟨e0, e1, e2, e3, e4, e5, e6, e7, e8, e9⟩ := BM.out.ten
      have ltBM := BM.out.lt
      go_wp2_with fail
      (with_reducible refine (CX.out _).mono ?_)
      rintro e w4 ⟨a9, k9, rfl, r9, -, b4⟩
      clear c0 c1 c2 c3 c4 c5 c6 c7 c8 c9 e0 e1 e2 e3 e4 e5 e6 e7 e8 e9 ltBX ltBM
      replace BX := Lib.hid (BX.out.here b4)
      replace R0 := Lib.hid (R0.out.here b4)
      replace BM := Lib.hid (BM.out.here b4)
      have B4 := Lib.hid (thence B3.out b4 (Nat.le_refl _))
      have R9 := Lib.hid r9
      clear r9
      clear b4 B3
      obtain ⟨c0, c1, c2, c3, c4, c5, c6, c7, c8, c9⟩ := BX.out.ten
      have ltBX := BX.out.lt
      obtain ⟨e0, e1, e2, e3, e4, e5, e6, e7, e8, e9⟩ := BM.out.ten
      have ltBM := BM.out.lt
      have T9 := text_is w4 _ _ _ _ R9.out
      have T0 := text_is w4 _ _ _ _ R0.out
      go_wp2_with fail
      go_ret
      exact ⟨rfl, B4.out⟩
  · injection hz with z0 z1 z2 z3 z4 z5 z6 z7 z8 z9
    subst z0 z1 z2 z3 z4 z5 z6 z7 z8 z9
    clear hr hX hback hby hidx hid
    generalize l.length = n at *
    cases hm : Lab.may ⟨id, ev, mem, chunk, rows, log, me, lost, done, op⟩ with
    | true =>
      have CW := Lib.hid (fun w1 => I.yes id ev mem chunk rows log me lost done op w1 HI.out (LB.may_iff.1 hm))
      have CL : Hid (∀ (a : Option Addr) (n : Nat) (w1 : World), Rd w1.heap.size w1 a 128 n (Lab.block ⟨id, ev, mem, chunk, rows, log, me, lost, done, op⟩) → Calls Try.prog 12 #[.slice a 128 n] w1 fun e w' => e = .returned (.tuple #[.agg #[.int .u32 (id : Int), .int .u32 (ev : Int), .int .i64 mem, .int .i64 chunk, .int .i64 rows, .int .i64 log, .int .i64 me, .int .i64 lost, .int .i64 done, .bool op], .int .i64 0]) ∧ Below w1.heap.size w1 w') := fun a n w1 hr => by have := I.read a 128 n _ w1 hr; rw [LB.rd_block (LB.may_iff.1 hm) HI.out] at this; exact this
      generalize Lab.block ⟨id, ev, mem, chunk, rows, log, me, lost, done, op⟩ = K at *
      clear hm
      go_enter Try.func6, Try.ntmps6
      go_wp2_with fail
      replace BX : Hid (Bx (w.alloc (.cells #[.int .u32 (id : Int), .int .u32 (ev : Int), .int .i64 mem, .int .i64 chunk, .int .i64 rows, .int .i64 log, .int .i64 me, .int .i64 lost, .int .i64 done, .bool op] 28)) w.heap.size [.int .u32 (id : Int), .int .u32 (ev : Int), .int .i64 mem, .int .i64 chunk, .int .i64 rows, .int .i64 log, .int .i64 me, .int .i64 lost, .int .i64 done, .bool op]) := BX
      generalize w.alloc (.cells #[.int .u32 (id : Int), .int .u32 (ev : Int), .int .i64 mem, .int .i64 chunk, .int .i64 rows, .int .i64 log, .int .i64 me, .int .i64 lost, .int .i64 done, .bool op] 28) = W0 at *
      obtain ⟨c0, c1, c2, c3, c4, c5, c6, c7, c8, c9⟩ := BX.out.ten
      have ltBX := BX.out.lt
      have R0 := Lib.hid ((HR.out.below B0.out).mono B0.out.size)
      (with_reducible refine (CA.out _).mono ?_)
      rintro e w1 ⟨rfl, b1⟩
      clear c0 c1 c2 c3 c4 c5 c6 c7 c8 c9 ltBX
      replace BX := Lib.hid (BX.out.here b1)
      replace R0 := Lib.hid (R0.out.here b1)
      have B1 := Lib.hid (thence B0.out b1 (Nat.le_refl _))
      clear b1 B0
      obtain ⟨c0, c1, c2, c3, c4, c5, c6, c7, c8, c9⟩ := BX.out.ten
      have ltBX := BX.out.lt
      go_wp2_with fail
      (with_reducible refine (CW.out _).mono ?_)
      rintro e w2 ⟨a1, k1, rfl, r1, -, b2⟩
      clear c0 c1 c2 c3 c4 c5 c6 c7 c8 c9 ltBX
      replace BX := Lib.hid (BX.out.here b2)
      replace R0 := Lib.hid (R0.out.here b2)
      have B2 := Lib.hid (thence B1.out b2 (Nat.le_refl _))
      have R1 := Lib.hid r1
      clear r1
      clear b2 B1
      obtain ⟨c0, c1, c2, c3, c4, c5, c6, c7, c8, c9⟩ := BX.out.ten
      have ltBX := BX.out.lt
      go_wp2_with fail
      (with_reducible refine (CL.out _ _ _ R1.out).mono ?_)
      rintro e w3 ⟨rfl, b3⟩
      clear c0 c1 c2 c3 c4 c5 c6 c7 c8 c9 ltBX
      replace BX := Lib.hid (BX.out.here b3)
      replace R0 := Lib.hid (R0.out.here b3)
      replace R1 := Lib.hid (R1.out.here b3)
      have ha3 : Below w3.heap.size w3 (w3.alloc (.cells #[.int .u32 (id : Int), .int .u32 (ev : Int), .int .i64 mem, .int .i64 chunk, .int .i64 rows, .int .i64 log, .int .i64 me, .int .i64 lost, .int .i64 done, .bool op] 28)) := (Below.refl _ _).alloc (Nat.le_refl _) _
      replace BX := Lib.hid (BX.out.here ha3)
      replace R0 := Lib.hid (R0.out.here ha3)
      replace R1 := Lib.hid (R1.out.here ha3)
      have BL : Hid (Bx (w3.alloc (.cells #[.int .u32 (id : Int), .int .u32 (ev : Int), .int .i64 mem, .int .i64 chunk, .int .i64 rows, .int .i64 log, .int .i64 me, .int .i64 lost, .int .i64 done, .bool op] 28)) w3.heap.size [.int .u32 (id : Int), .int .u32 (ev : Int), .int .i64 mem, .int .i64 chunk, .int .i64 rows, .int .i64 log, .int .i64 me, .int .i64 lost, .int .i64 done, .bool op]) := Bx.new w3 [.int .u32 (id : Int), .int .u32 (ev : Int), .int .i64 mem, .int .i64 chunk, .int .i64 rows, .int .i64 log, .int .i64 me, .int .i64 lost, .int .i64 done, .bool op] 28
      have B3 := Lib.hid (thence B2.out (thence b3 ha3 (Nat.le_refl _)) (Nat.le_refl _))
      clear ha3
      clear b3 B2
      obtain ⟨c0, c1, c2, c3, c4, c5, c6, c7, c8, c9⟩ := BX.out.ten
      have ltBX := BX.out.lt
      obtain ⟨d0, d1, d2, d3, d4, d5, d6, d7, d8, d9⟩ := BL.out.ten
      have ltBL := BL.out.lt
      go_wp2_with fail
      (with_reducible refine (CP.out _ _ _ _ R0.out).mono ?_)
      rintro e w4 ⟨rfl, b4⟩
      clear c0 c1 c2 c3 c4 c5 c6 c7 c8 c9 d0 d1 d2 d3 d4 d5 d6 d7 d8 d9 ltBX ltBL
      replace BX := Lib.hid (BX.out.here b4)
      replace R0 := Lib.hid (R0.out.here b4)
      replace R1 := Lib.hid (R1.out.here b4)
      replace BL := Lib.hid (BL.out.here b4)
      have ha4 : Below w4.heap.size w4 (w4.alloc (.cells #[.int .u32 0, .int .u32 0, .int .i64 0, .int .i64 0, .int .i64 0, .int .i64 0, .int .i64 0, .int .i64 0, .int .i64 0, .bool false] 28)) := (Below.refl _ _).alloc (Nat.le_refl _) _
      replace BX := Lib.hid (BX.out.here ha4)
      replace R0 := Lib.hid (R0.out.here ha4)
      replace R1 := Lib.hid (R1.out.here ha4)
      replace BL := Lib.hid (BL.out.here ha4)
      have BM : Hid (Bx (w4.alloc (.cells #[.int .u32 0, .int .u32 0, .int .i64 0, .int .i64 0, .int .i64 0, .int .i64 0, .int .i64 0, .int .i64 0, .int .i64 0, .bool false] 28)) w4.heap.size [.int .u32 0, .int .u32 0, .int .i64 0, .int .i64 0, .int .i64 0, .int .i64 0, .int .i64 0, .int .i64 0, .int .i64 0, .bool false]) := Bx.new w4 [.int .u32 0, .int .u32 0, .int .i64 0, .int .i64 0, .int .i64 0, .int .i64 0, .int .i64 0, .int .i64 0, .int .i64 0, .bool false] 28
      have B4 := Lib.hid (thence B3.out (thence b4 ha4 (Nat.le_refl _)) (Nat.le_refl _))
      clear ha4
      clear b4 B3
      obtain ⟨c0, c1, c2, c3, c4, c5, c6, c7, c8, c9⟩ := BX.out.ten
      have ltBX := BX.out.lt
      obtain ⟨d0, d1, d2, d3, d4, d5, d6, d7, d8, d9⟩ := BL.out.ten
      have ltBL := BL.out.lt
      obtain ⟨e0, e1, e2, e3, e4, e5, e6, e7, e8, e9⟩ := BM.out.ten
      have ltBM := BM.out.lt
      go_wp2_with fail
      go_ret
      exact ⟨rfl, B4.out⟩
    | false =>
      have CW := Lib.hid (fun w1 => I.no id ev mem chunk rows log me lost done op w1 HI.out hm)
      clear hm
      go_enter Try.func6, Try.ntmps6
      go_wp2_with fail
      replace BX : Hid (Bx (w.alloc (.cells #[.int .u32 (id : Int), .int .u32 (ev : Int), .int .i64 mem, .int .i64 chunk, .int .i64 rows, .int .i64 log, .int .i64 me, .int .i64 lost, .int .i64 done, .bool op] 28)) w.heap.size [.int .u32 (id : Int), .int .u32 (ev : Int), .int .i64 mem, .int .i64 chunk, .int .i64 rows, .int .i64 log, .int .i64 me, .int .i64 lost, .int .i64 done, .bool op]) := BX
      generalize w.alloc (.cells #[.int .u32 (id : Int), .int .u32 (ev : Int), .int .i64 mem, .int .i64 chunk, .int .i64 rows, .int .i64 log, .int .i64 me, .int .i64 lost, .int .i64 done, .bool op] 28) = W0 at *
      obtain ⟨c0, c1, c2, c3, c4, c5, c6, c7, c8, c9⟩ := BX.out.ten
      have ltBX := BX.out.lt
      have R0 := Lib.hid ((HR.out.below B0.out).mono B0.out.size)
      (with_reducible refine (CA.out _).mono ?_)
      rintro e w1 ⟨rfl, b1⟩
      clear c0 c1 c2 c3 c4 c5 c6 c7 c8 c9 ltBX
      replace BX := Lib.hid (BX.out.here b1)
      replace R0 := Lib.hid (R0.out.here b1)
      have B1 := Lib.hid (thence B0.out b1 (Nat.le_refl _))
      clear b1 B0
      obtain ⟨c0, c1, c2, c3, c4, c5, c6, c7, c8, c9⟩ := BX.out.ten
      have ltBX := BX.out.lt
      go_wp2_with fail
      (with_reducible refine (CW.out _).mono ?_)
      rintro e w2 ⟨a1, k1, rfl, -, b2⟩
      clear c0 c1 c2 c3 c4 c5 c6 c7 c8 c9 ltBX
      replace BX := Lib.hid (BX.out.here b2)
      replace R0 := Lib.hid (R0.out.here b2)
      have B2 := Lib.hid (thence B1.out b2 (Nat.le_refl _))
      clear b2 B1
      obtain ⟨c0, c1, c2, c3, c4, c5, c6, c7, c8, c9⟩ := BX.out.ten
      have ltBX := BX.out.lt
      go_wp2_with fail
      (with_reducible refine (CP.out _ _ _ _ R0.out).mono ?_)
      rintro e w3 ⟨rfl, b3⟩
      clear c0 c1 c2 c3 c4 c5 c6 c7 c8 c9 ltBX
      replace BX := Lib.hid (BX.out.here b3)
      replace R0 := Lib.hid (R0.out.here b3)
      have ha3 : Below w3.heap.size w3 (w3.alloc (.cells #[.int .u32 0, .int .u32 0, .int .i64 0, .int .i64 0, .int .i64 0, .int .i64 0, .int .i64 0, .int .i64 0, .int .i64 0, .bool false] 28)) := (Below.refl _ _).alloc (Nat.le_refl _) _
      replace BX := Lib.hid (BX.out.here ha3)
      replace R0 := Lib.hid (R0.out.here ha3)
      have BM : Hid (Bx (w3.alloc (.cells #[.int .u32 0, .int .u32 0, .int .i64 0, .int .i64 0, .int .i64 0, .int .i64 0, .int .i64 0, .int .i64 0, .int .i64 0, .bool false] 28)) w3.heap.size [.int .u32 0, .int .u32 0, .int .i64 0, .int .i64 0, .int .i64 0, .int .i64 0, .int .i64 0, .int .i64 0, .int .i64 0, .bool false]) := Bx.new w3 [.int .u32 0, .int .u32 0, .int .i64 0, .int .i64 0, .int .i64 0, .int .i64 0, .int .i64 0, .int .i64 0, .int .i64 0, .bool false] 28
      have B3 := Lib.hid (thence B2.out (thence b3 ha3 (Nat.le_refl _)) (Nat.le_refl _))
      clear ha3
      clear b3 B2
      obtain ⟨c0, c1, c2, c3, c4, c5, c6, c7, c8, c9⟩ := BX.out.ten
      have ltBX := BX.out.lt
      obtain ⟨e0, e1, e2, e3, e4, e5, e6, e7, e8, e9⟩ := BM.out.ten
      have ltBM := BM.out.lt
      go_wp2_with fail
      go_ret
      exact ⟨rfl, B3.out⟩
  · injection hz with z0 z1 z2 z3 z4 z5 z6 z7 z8 z9
    subst z0 z1 z2 z3 z4 z5 z6 z7 z8 z9
    clear hr hX hback hby hidx hid
    generalize l.length = n at *
    cases hm : Lab.may ⟨id, ev, mem, chunk, rows, log, me, lost, done, op⟩ with
    | true =>
      have CW := Lib.hid (fun w1 => I.yes id ev mem chunk rows log me lost done op w1 HI.out (LB.may_iff.1 hm))
      have CL : Hid (∀ (a : Option Addr) (n : Nat) (w1 : World), Rd w1.heap.size w1 a 128 n (Lab.block ⟨id, ev, mem, chunk, rows, log, me, lost, done, op⟩) → Calls Try.prog 12 #[.slice a 128 n] w1 fun e w' => e = .returned (.tuple #[.agg #[.int .u32 (id : Int), .int .u32 (ev : Int), .int .i64 mem, .int .i64 chunk, .int .i64 rows, .int .i64 log, .int .i64 me, .int .i64 lost, .int .i64 done, .bool op], .int .i64 0]) ∧ Below w1.heap.size w1 w') := fun a n w1 hr => by have := I.read a 128 n _ w1 hr; rw [LB.rd_block (LB.may_iff.1 hm) HI.out] at this; exact this
      generalize Lab.block ⟨id, ev, mem, chunk, rows, log, me, lost, done, op⟩ = K at *
      clear hm
      go_enter Try.func6, Try.ntmps6
      go_wp2_with fail
      replace BX : Hid (Bx (w.alloc (.cells #[.int .u32 (id : Int), .int .u32 (ev : Int), .int .i64 mem, .int .i64 chunk, .int .i64 rows, .int .i64 log, .int .i64 me, .int .i64 lost, .int .i64 done, .bool op] 28)) w.heap.size [.int .u32 (id : Int), .int .u32 (ev : Int), .int .i64 mem, .int .i64 chunk, .int .i64 rows, .int .i64 log, .int .i64 me, .int .i64 lost, .int .i64 done, .bool op]) := BX
      generalize w.alloc (.cells #[.int .u32 (id : Int), .int .u32 (ev : Int), .int .i64 mem, .int .i64 chunk, .int .i64 rows, .int .i64 log, .int .i64 me, .int .i64 lost, .int .i64 done, .bool op] 28) = W0 at *
      obtain ⟨c0, c1, c2, c3, c4, c5, c6, c7, c8, c9⟩ := BX.out.ten
      have ltBX := BX.out.lt
      have R0 := Lib.hid ((HR.out.below B0.out).mono B0.out.size)
      (with_reducible refine (CA.out _).mono ?_)
      rintro e w1 ⟨rfl, b1⟩
      clear c0 c1 c2 c3 c4 c5 c6 c7 c8 c9 ltBX
      replace BX := Lib.hid (BX.out.here b1)
      replace R0 := Lib.hid (R0.out.here b1)
      have B1 := Lib.hid (thence B0.out b1 (Nat.le_refl _))
      clear b1 B0
      obtain ⟨c0, c1, c2, c3, c4, c5, c6, c7, c8, c9⟩ := BX.out.ten
      have ltBX := BX.out.lt
      go_wp2_with fail
      (with_reducible refine (CW.out _).mono ?_)
      rintro e w2 ⟨a1, k1, rfl, r1, -, b2⟩
      clear c0 c1 c2 c3 c4 c5 c6 c7 c8 c9 ltBX
      replace BX := Lib.hid (BX.out.here b2)
      replace R0 := Lib.hid (R0.out.here b2)
      have B2 := Lib.hid (thence B1.out b2 (Nat.le_refl _))
      have R1 := Lib.hid r1
      clear r1
      clear b2 B1
      obtain ⟨c0, c1, c2, c3, c4, c5, c6, c7, c8, c9⟩ := BX.out.ten
      have ltBX := BX.out.lt
      go_wp2_with fail
      (with_reducible refine (CL.out _ _ _ R1.out).mono ?_)
      rintro e w3 ⟨rfl, b3⟩
      clear c0 c1 c2 c3 c4 c5 c6 c7 c8 c9 ltBX
      replace BX := Lib.hid (BX.out.here b3)
      replace R0 := Lib.hid (R0.out.here b3)
      replace R1 := Lib.hid (R1.out.here b3)
      have ha3 : Below w3.heap.size w3 (w3.alloc (.cells #[.int .u32 (id : Int), .int .u32 (ev : Int), .int .i64 mem, .int .i64 chunk, .int .i64 rows, .int .i64 log, .int .i64 me, .int .i64 lost, .int .i64 done, .bool op] 28)) := (Below.refl _ _).alloc (Nat.le_refl _) _
      replace BX := Lib.hid (BX.out.here ha3)
      replace R0 := Lib.hid (R0.out.here ha3)
      replace R1 := Lib.hid (R1.out.here ha3)
      have BL : Hid (Bx (w3.alloc (.cells #[.int .u32 (id : Int), .int .u32 (ev : Int), .int .i64 mem, .int .i64 chunk, .int .i64 rows, .int .i64 log, .int .i64 me, .int .i64 lost, .int .i64 done, .bool op] 28)) w3.heap.size [.int .u32 (id : Int), .int .u32 (ev : Int), .int .i64 mem, .int .i64 chunk, .int .i64 rows, .int .i64 log, .int .i64 me, .int .i64 lost, .int .i64 done, .bool op]) := Bx.new w3 [.int .u32 (id : Int), .int .u32 (ev : Int), .int .i64 mem, .int .i64 chunk, .int .i64 rows, .int .i64 log, .int .i64 me, .int .i64 lost, .int .i64 done, .bool op] 28
      have B3 := Lib.hid (thence B2.out (thence b3 ha3 (Nat.le_refl _)) (Nat.le_refl _))
      clear ha3
      clear b3 B2
      obtain ⟨c0, c1, c2, c3, c4, c5, c6, c7, c8, c9⟩ := BX.out.ten
      have ltBX := BX.out.lt
      obtain ⟨d0, d1, d2, d3, d4, d5, d6, d7, d8, d9⟩ := BL.out.ten
      have ltBL := BL.out.lt
      go_wp2_with fail
      (with_reducible refine (CP.out _ _ _ _ R0.out).mono ?_)
      rintro e w4 ⟨rfl, b4⟩
      clear c0 c1 c2 c3 c4 c5 c6 c7 c8 c9 d0 d1 d2 d3 d4 d5 d6 d7 d8 d9 ltBX ltBL
      replace BX := Lib.hid (BX.out.here b4)
      replace R0 := Lib.hid (R0.out.here b4)
      replace R1 := Lib.hid (R1.out.here b4)
      replace BL := Lib.hid (BL.out.here b4)
      have ha4 : Below w4.heap.size w4 (w4.alloc (.cells #[.int .u32 0, .int .u32 0, .int .i64 0, .int .i64 0, .int .i64 0, .int .i64 0, .int .i64 0, .int .i64 0, .int .i64 0, .bool false] 28)) := (Below.refl _ _).alloc (Nat.le_refl _) _
      replace BX := Lib.hid (BX.out.here ha4)
      replace R0 := Lib.hid (R0.out.here ha4)
      replace R1 := Lib.hid (R1.out.here ha4)
      replace BL := Lib.hid (BL.out.here ha4)
      have BM : Hid (Bx (w4.alloc (.cells #[.int .u32 0, .int .u32 0, .int .i64 0, .int .i64 0, .int .i64 0, .int .i64 0, .int .i64 0, .int .i64 0, .int .i64 0, .bool false] 28)) w4.heap.size [.int .u32 0, .int .u32 0, .int .i64 0, .int .i64 0, .int .i64 0, .int .i64 0, .int .i64 0, .int .i64 0, .int .i64 0, .bool false]) := Bx.new w4 [.int .u32 0, .int .u32 0, .int .i64 0, .int .i64 0, .int .i64 0, .int .i64 0, .int .i64 0, .int .i64 0, .int .i64 0, .bool false] 28
      have B4 := Lib.hid (thence B3.out (thence b4 ha4 (Nat.le_refl _)) (Nat.le_refl _))
      clear ha4
      clear b4 B3
      obtain ⟨c0, c1, c2, c3, c4, c5, c6, c7, c8, c9⟩ := BX.out.ten
      have ltBX := BX.out.lt
      obtain ⟨d0, d1, d2, d3, d4, d5, d6, d7, d8, d9⟩ := BL.out.ten
      have ltBL := BL.out.lt
      obtain ⟨e0, e1, e2, e3, e4, e5, e6, e7, e8, e9⟩ := BM.out.ten
      have ltBM := BM.out.lt
      go_wp2_with fail
      go_ret
      exact ⟨rfl, B4.out⟩
    | false =>
      have CW := Lib.hid (fun w1 => I.no id ev mem chunk rows log me lost done op w1 HI.out hm)
      clear hm
      go_enter Try.func6, Try.ntmps6
      go_wp2_with fail
      replace BX : Hid (Bx (w.alloc (.cells #[.int .u32 (id : Int), .int .u32 (ev : Int), .int .i64 mem, .int .i64 chunk, .int .i64 rows, .int .i64 log, .int .i64 me, .int .i64 lost, .int .i64 done, .bool op] 28)) w.heap.size [.int .u32 (id : Int), .int .u32 (ev : Int), .int .i64 mem, .int .i64 chunk, .int .i64 rows, .int .i64 log, .int .i64 me, .int .i64 lost, .int .i64 done, .bool op]) := BX
      generalize w.alloc (.cells #[.int .u32 (id : Int), .int .u32 (ev : Int), .int .i64 mem, .int .i64 chunk, .int .i64 rows, .int .i64 log, .int .i64 me, .int .i64 lost, .int .i64 done, .bool op] 28) = W0 at *
      obtain ⟨c0, c1, c2, c3, c4, c5, c6, c7, c8, c9⟩ := BX.out.ten
      have ltBX := BX.out.lt
      have R0 := Lib.hid ((HR.out.below B0.out).mono B0.out.size)
      (with_reducible refine (CA.out _).mono ?_)
      rintro e w1 ⟨rfl, b1⟩
      clear c0 c1 c2 c3 c4 c5 c6 c7 c8 c9 ltBX
      replace BX := Lib.hid (BX.out.here b1)
      replace R0 := Lib.hid (R0.out.here b1)
      have B1 := Lib.hid (thence B0.out b1 (Nat.le_refl _))
      clear b1 B0
      obtain ⟨c0, c1, c2, c3, c4, c5, c6, c7, c8, c9⟩ := BX.out.ten
      have ltBX := BX.out.lt
      go_wp2_with fail
      (with_reducible refine (CW.out _).mono ?_)
      rintro e w2 ⟨a1, k1, rfl, -, b2⟩
      clear c0 c1 c2 c3 c4 c5 c6 c7 c8 c9 ltBX
      replace BX := Lib.hid (BX.out.here b2)
      replace R0 := Lib.hid (R0.out.here b2)
      have B2 := Lib.hid (thence B1.out b2 (Nat.le_refl _))
      clear b2 B1
      obtain ⟨c0, c1, c2, c3, c4, c5, c6, c7, c8, c9⟩ := BX.out.ten
      have ltBX := BX.out.lt
      go_wp2_with fail
      (with_reducible refine (CP.out _ _ _ _ R0.out).mono ?_)
      rintro e w3 ⟨rfl, b3⟩
      clear c0 c1 c2 c3 c4 c5 c6 c7 c8 c9 ltBX
      replace BX := Lib.hid (BX.out.here b3)
      replace R0 := Lib.hid (R0.out.here b3)
      have ha3 : Below w3.heap.size w3 (w3.alloc (.cells #[.int .u32 0, .int .u32 0, .int .i64 0, .int .i64 0, .int .i64 0, .int .i64 0, .int .i64 0, .int .i64 0, .int .i64 0, .bool false] 28)) := (Below.refl _ _).alloc (Nat.le_refl _) _
      replace BX := Lib.hid (BX.out.here ha3)
      replace R0 := Lib.hid (R0.out.here ha3)
      have BM : Hid (Bx (w3.alloc (.cells #[.int .u32 0, .int .u32 0, .int .i64 0, .int .i64 0, .int .i64 0, .int .i64 0, .int .i64 0, .int .i64 0, .int .i64 0, .bool false] 28)) w3.heap.size [.int .u32 0, .int .u32 0, .int .i64 0, .int .i64 0, .int .i64 0, .int .i64 0, .int .i64 0, .int .i64 0, .int .i64 0, .bool false]) := Bx.new w3 [.int .u32 0, .int .u32 0, .int .i64 0, .int .i64 0, .int .i64 0, .int .i64 0, .int .i64 0, .int .i64 0, .int .i64 0, .bool false] 28
      have B3 := Lib.hid (thence B2.out (thence b3 ha3 (Nat.le_refl _)) (Nat.le_refl _))
      clear ha3
      clear b3 B2
      obtain ⟨c0, c1, c2, c3, c4, c5, c6, c7, c8, c9⟩ := BX.out.ten
      have ltBX := BX.out.lt
      obtain ⟨e0, e1, e2, e3, e4, e5, e6, e7, e8, e9⟩ := BM.out.ten
      have ltBM := BM.out.lt
      go_wp2_with fail
      go_ret
      exact ⟨rfl, B3.out⟩
end Go.Proofs.Ytleaphlignfkjaa.PW
