/-
  Layer 9's laws, given what the program's calls answer.
-/
import Derived.Test.YtleaphlignfkjaaLabelLaws
namespace Go.Proofs.Ytleaphlignfkjaa.PW
open Go.RowKit
open SK (Cfg)
open LB (Lab)
set_option linter.unusedVariables false
set_option linter.unusedSimpArgs false
set_option maxRecDepth 100000

set_option maxHeartbeats 2000000 in
theorem labelNames_walk (I : LabelIs)  (w : World) :
    Calls Try.prog 3 #[] w fun e w' => e = .returned (.bool true) ∧ Below w.heap.size w w' := by
  obtain ⟨K, HK, CW, CR, CO⟩ := one_of I
  have CA : Hid (∀ w1, Calls Try.prog 13 #[] w1 fun e w' => e = .returned (.bool true) ∧ Below w1.heap.size w1 w') := alive9_any I
  have HL : Hid (K.length = 128) := by show _ = _; rw [HK.out]; exact LB.block_length _
  have CN : Hid (∀ w1, Calls Try.prog 12 #[.slice none 0 0] w1 fun e w' => e = .returned (.tuple #[.agg #[.int .u32 0, .int .u32 0, .int .i64 0, .int .i64 0, .int .i64 0, .int .i64 0, .int .i64 0, .int .i64 0, .int .i64 0, .bool false], .int .i64 90]) ∧ Below w1.heap.size w1 w') := fun w1 => by
    have := I.read none 0 0 [] w1 (rd_nil _ _)
    rw [LB.rd_first (.inl rfl) (by decide)] at this
    exact this
  have CT : Hid (∀ (a : Option Addr) (c : Nat) (w1 : World), Rd w1.heap.size w1 a 128 c K → Calls Try.prog 12 #[.slice a 127 c] w1 fun e w' => e = .returned (.tuple #[.agg #[.int .u32 0, .int .u32 0, .int .i64 0, .int .i64 0, .int .i64 0, .int .i64 0, .int .i64 0, .int .i64 0, .int .i64 0, .bool false], .int .i64 3]) ∧ Below w1.heap.size w1 w') := fun a c w1 hr => by
    have := I.read a 127 c (K.take 127) w1 (hr.take 127 (by decide))
    rw [LB.rd_text (by rw [List.length_take, HL.out]; decide) (by rw [List.length_take, HL.out]; decide)] at this
    exact this
  have KX : Hid (∀ w1, Calls Try.prog 14 #[.agg #[.int .u32 7, .int .u32 2, .int .i64 3, .int .i64 1, .int .i64 1, .int .i64 12, .int .i64 3, .int .i64 (-1), .int .i64 0, .bool true]] w1 fun e w' => e = .returned (.int .i64 8) ∧ Below w1.heap.size w1 w') := fun w1 => by
    have := I.check 7 2 3 1 1 12 3 (-1) 0 true w1 (by decide); rw [LB.code_no (by decide)] at this; exact this
  have KY : Hid (∀ w1, Calls Try.prog 14 #[.agg #[.int .u32 7, .int .u32 2, .int .i64 3, .int .i64 1, .int .i64 1, .int .i64 12, .int .i64 1, .int .i64 (-1), .int .i64 1, .bool true]] w1 fun e w' => e = .returned (.int .i64 8) ∧ Below w1.heap.size w1 w') := fun w1 => by
    have := I.check 7 2 3 1 1 12 1 (-1) 1 true w1 (by decide); rw [LB.code_no (by decide)] at this; exact this
  have KZ : Hid (∀ w1, Calls Try.prog 14 #[.agg #[.int .u32 7, .int .u32 2, .int .i64 3, .int .i64 1, .int .i64 1, .int .i64 12, .int .i64 1, .int .i64 1, .int .i64 1, .bool true]] w1 fun e w' => e = .returned (.int .i64 0) ∧ Below w1.heap.size w1 w') := fun w1 => by
    have := I.check 7 2 3 1 1 12 1 1 1 true w1 (by decide); rw [LB.code_yes (by decide)] at this; exact this
  have HT : Hid ((str (K.take 17)).toList = [76, 7, 0, 0, 0, 2, 0, 0, 0, 3, 1, 1, 12, 1, 255, 0, 1]) := by
    show _ = _
    rw [HK.out, show oneL.block.take 17 = oneL.head from by unfold Lab.block; rw [SL.sld_first (by decide) 17 (by decide)]; rfl]
    rw [show str oneL.head = ByteArray.mk #[76, 7, 0, 0, 0, 2, 0, 0, 0, 3, 1, 1, 12, 1, 255, 0, 1] from by decide +kernel]
    rw [ByteArray.toList_eq]
  have B0 : Hid (Below w.heap.size w w) := Below.refl _ _
  go_enter Try.func3, Try.ntmps3
  go_wp2_with fail
  (with_reducible refine (CO.out _).mono ?_)
  rintro e w1 ⟨rfl, b1⟩
  have B1 := Lib.hid (thence B0.out b1 (Nat.le_refl _))
  clear b1 B0
  go_wp2_with fail
  (with_reducible refine (CW.out _).mono ?_)
  rintro e w2 ⟨a1, k1, rfl, r1, b2⟩
  have B2 := Lib.hid (thence B1.out b2 (Nat.le_refl _))
  have R1 := Lib.hid r1
  have HF : Hid (128 ≤ k1) := by have := r1.fits; rw [HL.out] at this; exact this
  obtain ⟨gb, off, rfl, -, -⟩ := r1.cells (by intro e; have := HL.out; rw [e] at this; cases this)
  clear r1
  clear b2 B1
  have hf1 : 127 ≤ k1 := by have := HF.out; omega
  have hf2 : 17 ≤ k1 := by have := HF.out; omega
  go_wp2_with fail
  (with_reducible refine (CN.out _).mono ?_)
  rintro e w3 ⟨rfl, b3⟩
  replace R1 := Lib.hid (R1.out.here b3)
  have ha3 : Below w3.heap.size w3 (w3.alloc (.cells #[.int .u32 0, .int .u32 0, .int .i64 0, .int .i64 0, .int .i64 0, .int .i64 0, .int .i64 0, .int .i64 0, .int .i64 0, .bool false] 28)) := (Below.refl _ _).alloc (Nat.le_refl _) _
  replace R1 := Lib.hid (R1.out.here ha3)
  have B1x : Hid (Bx (w3.alloc (.cells #[.int .u32 0, .int .u32 0, .int .i64 0, .int .i64 0, .int .i64 0, .int .i64 0, .int .i64 0, .int .i64 0, .int .i64 0, .bool false] 28)) w3.heap.size [.int .u32 0, .int .u32 0, .int .i64 0, .int .i64 0, .int .i64 0, .int .i64 0, .int .i64 0, .int .i64 0, .int .i64 0, .bool false]) := Bx.new w3 [.int .u32 0, .int .u32 0, .int .i64 0, .int .i64 0, .int .i64 0, .int .i64 0, .int .i64 0, .int .i64 0, .int .i64 0, .bool false] 28
  have B3 := Lib.hid (thence B2.out (thence b3 ha3 (Nat.le_refl _)) (Nat.le_refl _))
  clear ha3
  clear b3 B2
  go_wp2_with fail
  (with_reducible refine (CT.out _ _ _ R1.out).mono ?_)
  rintro e w4 ⟨rfl, b4⟩
  replace R1 := Lib.hid (R1.out.here b4)
  have ha4 : Below w4.heap.size w4 (w4.alloc (.cells #[.int .u32 0, .int .u32 0, .int .i64 0, .int .i64 0, .int .i64 0, .int .i64 0, .int .i64 0, .int .i64 0, .int .i64 0, .bool false] 28)) := (Below.refl _ _).alloc (Nat.le_refl _) _
  replace R1 := Lib.hid (R1.out.here ha4)
  have B2x : Hid (Bx (w4.alloc (.cells #[.int .u32 0, .int .u32 0, .int .i64 0, .int .i64 0, .int .i64 0, .int .i64 0, .int .i64 0, .int .i64 0, .int .i64 0, .bool false] 28)) w4.heap.size [.int .u32 0, .int .u32 0, .int .i64 0, .int .i64 0, .int .i64 0, .int .i64 0, .int .i64 0, .int .i64 0, .int .i64 0, .bool false]) := Bx.new w4 [.int .u32 0, .int .u32 0, .int .i64 0, .int .i64 0, .int .i64 0, .int .i64 0, .int .i64 0, .int .i64 0, .int .i64 0, .bool false] 28
  have B4 := Lib.hid (thence B3.out (thence b4 ha4 (Nat.le_refl _)) (Nat.le_refl _))
  clear ha4
  clear b4 B3
  go_wp2_with fail
  (with_reducible refine (CO.out _).mono ?_)
  rintro e w5 ⟨rfl, b5⟩
  replace R1 := Lib.hid (R1.out.here b5)
  have B5 := Lib.hid (thence B4.out b5 (Nat.le_refl _))
  clear b5 B4
  go_wp2_with fail
  (with_reducible refine (CO.out _).mono ?_)
  rintro e w6 ⟨rfl, b6⟩
  replace R1 := Lib.hid (R1.out.here b6)
  have B6 := Lib.hid (thence B5.out b6 (Nat.le_refl _))
  clear b6 B5
  go_wp2_with fail
  (with_reducible refine (CO.out _).mono ?_)
  rintro e w7 ⟨rfl, b7⟩
  replace R1 := Lib.hid (R1.out.here b7)
  have B7 := Lib.hid (thence B6.out b7 (Nat.le_refl _))
  clear b7 B6
  have ha : Below w7.heap.size w7 (w7.alloc (.cells #[.int .u32 7, .int .u32 2, .int .i64 3, .int .i64 1, .int .i64 1, .int .i64 12, .int .i64 3, .int .i64 (-1), .int .i64 0, .bool true] 28)) := (Below.refl _ _).alloc (Nat.le_refl _) _
  have hb : Below (w7.alloc (.cells #[.int .u32 7, .int .u32 2, .int .i64 3, .int .i64 1, .int .i64 1, .int .i64 12, .int .i64 3, .int .i64 (-1), .int .i64 0, .bool true] 28)).heap.size (w7.alloc (.cells #[.int .u32 7, .int .u32 2, .int .i64 3, .int .i64 1, .int .i64 1, .int .i64 12, .int .i64 3, .int .i64 (-1), .int .i64 0, .bool true] 28)) ((w7.alloc (.cells #[.int .u32 7, .int .u32 2, .int .i64 3, .int .i64 1, .int .i64 1, .int .i64 12, .int .i64 3, .int .i64 (-1), .int .i64 0, .bool true] 28)).alloc (.cells #[.int .u32 7, .int .u32 2, .int .i64 3, .int .i64 1, .int .i64 1, .int .i64 12, .int .i64 1, .int .i64 (-1), .int .i64 1, .bool true] 28)) := (Below.refl _ _).alloc (Nat.le_refl _) _
  have hc : Below ((w7.alloc (.cells #[.int .u32 7, .int .u32 2, .int .i64 3, .int .i64 1, .int .i64 1, .int .i64 12, .int .i64 3, .int .i64 (-1), .int .i64 0, .bool true] 28)).alloc (.cells #[.int .u32 7, .int .u32 2, .int .i64 3, .int .i64 1, .int .i64 1, .int .i64 12, .int .i64 1, .int .i64 (-1), .int .i64 1, .bool true] 28)).heap.size ((w7.alloc (.cells #[.int .u32 7, .int .u32 2, .int .i64 3, .int .i64 1, .int .i64 1, .int .i64 12, .int .i64 3, .int .i64 (-1), .int .i64 0, .bool true] 28)).alloc (.cells #[.int .u32 7, .int .u32 2, .int .i64 3, .int .i64 1, .int .i64 1, .int .i64 12, .int .i64 1, .int .i64 (-1), .int .i64 1, .bool true] 28)) (((w7.alloc (.cells #[.int .u32 7, .int .u32 2, .int .i64 3, .int .i64 1, .int .i64 1, .int .i64 12, .int .i64 3, .int .i64 (-1), .int .i64 0, .bool true] 28)).alloc (.cells #[.int .u32 7, .int .u32 2, .int .i64 3, .int .i64 1, .int .i64 1, .int .i64 12, .int .i64 1, .int .i64 (-1), .int .i64 1, .bool true] 28)).alloc (.cells #[.int .u32 7, .int .u32 2, .int .i64 3, .int .i64 1, .int .i64 1, .int .i64 12, .int .i64 1, .int .i64 1, .int .i64 1, .bool true] 28)) := (Below.refl _ _).alloc (Nat.le_refl _) _
  have e1 : (w7.alloc (.cells #[.int .u32 7, .int .u32 2, .int .i64 3, .int .i64 1, .int .i64 1, .int .i64 12, .int .i64 3, .int .i64 (-1), .int .i64 0, .bool true] 28)).heap.size = w7.heap.size + 1 := by simp
  have e2 : ((w7.alloc (.cells #[.int .u32 7, .int .u32 2, .int .i64 3, .int .i64 1, .int .i64 1, .int .i64 12, .int .i64 3, .int .i64 (-1), .int .i64 0, .bool true] 28)).alloc (.cells #[.int .u32 7, .int .u32 2, .int .i64 3, .int .i64 1, .int .i64 1, .int .i64 12, .int .i64 1, .int .i64 (-1), .int .i64 1, .bool true] 28)).heap.size = w7.heap.size + 1 + 1 := by simp
  have BX : Hid (Bx (((w7.alloc (.cells #[.int .u32 7, .int .u32 2, .int .i64 3, .int .i64 1, .int .i64 1, .int .i64 12, .int .i64 3, .int .i64 (-1), .int .i64 0, .bool true] 28)).alloc (.cells #[.int .u32 7, .int .u32 2, .int .i64 3, .int .i64 1, .int .i64 1, .int .i64 12, .int .i64 1, .int .i64 (-1), .int .i64 1, .bool true] 28)).alloc (.cells #[.int .u32 7, .int .u32 2, .int .i64 3, .int .i64 1, .int .i64 1, .int .i64 12, .int .i64 1, .int .i64 1, .int .i64 1, .bool true] 28)) w7.heap.size [.int .u32 7, .int .u32 2, .int .i64 3, .int .i64 1, .int .i64 1, .int .i64 12, .int .i64 3, .int .i64 (-1), .int .i64 0, .bool true]) := ((Bx.new w7 [.int .u32 7, .int .u32 2, .int .i64 3, .int .i64 1, .int .i64 1, .int .i64 12, .int .i64 3, .int .i64 (-1), .int .i64 0, .bool true] 28).here hb).here hc
  have BY : Hid (Bx (((w7.alloc (.cells #[.int .u32 7, .int .u32 2, .int .i64 3, .int .i64 1, .int .i64 1, .int .i64 12, .int .i64 3, .int .i64 (-1), .int .i64 0, .bool true] 28)).alloc (.cells #[.int .u32 7, .int .u32 2, .int .i64 3, .int .i64 1, .int .i64 1, .int .i64 12, .int .i64 1, .int .i64 (-1), .int .i64 1, .bool true] 28)).alloc (.cells #[.int .u32 7, .int .u32 2, .int .i64 3, .int .i64 1, .int .i64 1, .int .i64 12, .int .i64 1, .int .i64 1, .int .i64 1, .bool true] 28)) (w7.heap.size + 1) [.int .u32 7, .int .u32 2, .int .i64 3, .int .i64 1, .int .i64 1, .int .i64 12, .int .i64 1, .int .i64 (-1), .int .i64 1, .bool true]) := by
    have := (Bx.new (w7.alloc (.cells #[.int .u32 7, .int .u32 2, .int .i64 3, .int .i64 1, .int .i64 1, .int .i64 12, .int .i64 3, .int .i64 (-1), .int .i64 0, .bool true] 28)) [.int .u32 7, .int .u32 2, .int .i64 3, .int .i64 1, .int .i64 1, .int .i64 12, .int .i64 1, .int .i64 (-1), .int .i64 1, .bool true] 28).here hc
    rw [e1] at this
    exact this
  have BZ : Hid (Bx (((w7.alloc (.cells #[.int .u32 7, .int .u32 2, .int .i64 3, .int .i64 1, .int .i64 1, .int .i64 12, .int .i64 3, .int .i64 (-1), .int .i64 0, .bool true] 28)).alloc (.cells #[.int .u32 7, .int .u32 2, .int .i64 3, .int .i64 1, .int .i64 1, .int .i64 12, .int .i64 1, .int .i64 (-1), .int .i64 1, .bool true] 28)).alloc (.cells #[.int .u32 7, .int .u32 2, .int .i64 3, .int .i64 1, .int .i64 1, .int .i64 12, .int .i64 1, .int .i64 1, .int .i64 1, .bool true] 28)) (w7.heap.size + 1 + 1) [.int .u32 7, .int .u32 2, .int .i64 3, .int .i64 1, .int .i64 1, .int .i64 12, .int .i64 1, .int .i64 1, .int .i64 1, .bool true]) := by
    have := Bx.new ((w7.alloc (.cells #[.int .u32 7, .int .u32 2, .int .i64 3, .int .i64 1, .int .i64 1, .int .i64 12, .int .i64 3, .int .i64 (-1), .int .i64 0, .bool true] 28)).alloc (.cells #[.int .u32 7, .int .u32 2, .int .i64 3, .int .i64 1, .int .i64 1, .int .i64 12, .int .i64 1, .int .i64 (-1), .int .i64 1, .bool true] 28)) [.int .u32 7, .int .u32 2, .int .i64 3, .int .i64 1, .int .i64 1, .int .i64 12, .int .i64 1, .int .i64 1, .int .i64 1, .bool true] 28
    rw [e2] at this
    exact this
  have b8 : Below w7.heap.size w7 (((w7.alloc (.cells #[.int .u32 7, .int .u32 2, .int .i64 3, .int .i64 1, .int .i64 1, .int .i64 12, .int .i64 3, .int .i64 (-1), .int .i64 0, .bool true] 28)).alloc (.cells #[.int .u32 7, .int .u32 2, .int .i64 3, .int .i64 1, .int .i64 1, .int .i64 12, .int .i64 1, .int .i64 (-1), .int .i64 1, .bool true] 28)).alloc (.cells #[.int .u32 7, .int .u32 2, .int .i64 3, .int .i64 1, .int .i64 1, .int .i64 12, .int .i64 1, .int .i64 1, .int .i64 1, .bool true] 28)) := thence (thence ha hb (Nat.le_refl _)) hc (Nat.le_refl _)
  replace R1 := Lib.hid (R1.out.here b8)
  have B8 := Lib.hid (thence B7.out b8 (Nat.le_refl _))
  clear ha hb hc e1 e2 b8 B7
  go_wp2_with fail
  generalize ((w7.alloc (.cells #[.int .u32 7, .int .u32 2, .int .i64 3, .int .i64 1, .int .i64 1, .int .i64 12, .int .i64 3, .int .i64 (-1), .int .i64 0, .bool true] 28)).alloc (.cells #[.int .u32 7, .int .u32 2, .int .i64 3, .int .i64 1, .int .i64 1, .int .i64 12, .int .i64 1, .int .i64 (-1), .int .i64 1, .bool true] 28)).alloc (.cells #[.int .u32 7, .int .u32 2, .int .i64 3, .int .i64 1, .int .i64 1, .int .i64 12, .int .i64 1, .int .i64 1, .int .i64 1, .bool true] 28) = w8 at *
  (with_reducible refine (CA.out _).mono ?_)
  rintro e w9 ⟨rfl, b9⟩
  replace R1 := Lib.hid (R1.out.here b9)
  replace BX := Lib.hid (BX.out.here b9)
  replace BY := Lib.hid (BY.out.here b9)
  replace BZ := Lib.hid (BZ.out.here b9)
  have B9 := Lib.hid (thence B8.out b9 (Nat.le_refl _))
  have T17 := text_is w9 _ _ _ _ (R1.out.take 17 (by decide))
  have HT1 := HT.out
  have HT2 : ((str (K.take 17)).toList == [76, 7, 0, 0, 0, 2, 0, 0, 0, 3, 1, 1, 12, 1, 255, 0, 1]) = true := by rw [HT1]; rfl
  clear HT1
  clear b9 B8
  obtain ⟨x0, x1, x2, x3, x4, x5, x6, x7, x8, x9⟩ := BX.out.ten
  have ltBX := BX.out.lt
  obtain ⟨y0, y1, y2, y3, y4, y5, y6, y7, y8, y9⟩ := BY.out.ten
  have ltBY := BY.out.lt
  obtain ⟨z0, z1, z2, z3, z4, z5, z6, z7, z8, z9⟩ := BZ.out.ten
  have ltBZ := BZ.out.lt
  go_wp2_with fail
  (with_reducible refine (KX.out _).mono ?_)
  rintro e w10 ⟨rfl, b10⟩
  clear x0 x1 x2 x3 x4 x5 x6 x7 x8 x9 y0 y1 y2 y3 y4 y5 y6 y7 y8 y9 z0 z1 z2 z3 z4 z5 z6 z7 z8 z9 ltBX ltBY ltBZ
  replace R1 := Lib.hid (R1.out.here b10)
  replace BX := Lib.hid (BX.out.here b10)
  replace BY := Lib.hid (BY.out.here b10)
  replace BZ := Lib.hid (BZ.out.here b10)
  have B10 := Lib.hid (thence B9.out b10 (Nat.le_refl _))
  clear b10 B9 T17 HT2
  obtain ⟨x0, x1, x2, x3, x4, x5, x6, x7, x8, x9⟩ := BX.out.ten
  have ltBX := BX.out.lt
  obtain ⟨y0, y1, y2, y3, y4, y5, y6, y7, y8, y9⟩ := BY.out.ten
  have ltBY := BY.out.lt
  obtain ⟨z0, z1, z2, z3, z4, z5, z6, z7, z8, z9⟩ := BZ.out.ten
  have ltBZ := BZ.out.lt
  go_wp2_with fail
  (with_reducible refine (KY.out _).mono ?_)
  rintro e w11 ⟨rfl, b11⟩
  clear x0 x1 x2 x3 x4 x5 x6 x7 x8 x9 y0 y1 y2 y3 y4 y5 y6 y7 y8 y9 z0 z1 z2 z3 z4 z5 z6 z7 z8 z9 ltBX ltBY ltBZ
  replace R1 := Lib.hid (R1.out.here b11)
  replace BX := Lib.hid (BX.out.here b11)
  replace BY := Lib.hid (BY.out.here b11)
  replace BZ := Lib.hid (BZ.out.here b11)
  have B11 := Lib.hid (thence B10.out b11 (Nat.le_refl _))
  clear b11 B10
  obtain ⟨x0, x1, x2, x3, x4, x5, x6, x7, x8, x9⟩ := BX.out.ten
  have ltBX := BX.out.lt
  obtain ⟨y0, y1, y2, y3, y4, y5, y6, y7, y8, y9⟩ := BY.out.ten
  have ltBY := BY.out.lt
  obtain ⟨z0, z1, z2, z3, z4, z5, z6, z7, z8, z9⟩ := BZ.out.ten
  have ltBZ := BZ.out.lt
  go_wp2_with fail
  (with_reducible refine (KZ.out _).mono ?_)
  rintro e w12 ⟨rfl, b12⟩
  clear x0 x1 x2 x3 x4 x5 x6 x7 x8 x9 y0 y1 y2 y3 y4 y5 y6 y7 y8 y9 z0 z1 z2 z3 z4 z5 z6 z7 z8 z9 ltBX ltBY ltBZ
  replace R1 := Lib.hid (R1.out.here b12)
  replace BX := Lib.hid (BX.out.here b12)
  replace BY := Lib.hid (BY.out.here b12)
  replace BZ := Lib.hid (BZ.out.here b12)
  have B12 := Lib.hid (thence B11.out b12 (Nat.le_refl _))
  clear b12 B11
  obtain ⟨x0, x1, x2, x3, x4, x5, x6, x7, x8, x9⟩ := BX.out.ten
  have ltBX := BX.out.lt
  obtain ⟨y0, y1, y2, y3, y4, y5, y6, y7, y8, y9⟩ := BY.out.ten
  have ltBY := BY.out.lt
  obtain ⟨z0, z1, z2, z3, z4, z5, z6, z7, z8, z9⟩ := BZ.out.ten
  have ltBZ := BZ.out.lt
  go_wp2_with fail
  go_ret
  exact ⟨rfl, B12.out⟩
end Go.Proofs.Ytleaphlignfkjaa.PW
