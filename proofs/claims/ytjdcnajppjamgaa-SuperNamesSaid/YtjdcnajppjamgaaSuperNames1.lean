/-
  Layer 10's laws, given what the program's calls answer.
-/
import Derived.Test.YtjdcnajppjamgaaSuperLaws
namespace Go.Proofs.Ytjdcnajppjamgaa.PW
open Go.RowKit
open SB (Sup)
set_option linter.unusedVariables false
set_option linter.unusedSimpArgs false
set_option maxRecDepth 100000

set_option maxHeartbeats 4000000 in
theorem superNames_walk (I : SuperIs) (w : World) :
    Calls Try.prog 3 #[] w fun e w' => e = .returned (.bool true) ∧ Below w.heap.size w w' := by
  obtain ⟨K, HL, HT, CW, CR, CO⟩ := five_of I
  clear HT
  have CA : Hid (∀ w1, Calls Try.prog 12 #[] w1 fun e w' => e = .returned (.bool true) ∧ Below w1.heap.size w1 w') := alive10_any I
  have CN : Hid (∀ w1, Calls Try.prog 11 #[.slice none 0 0] w1 fun e w' => e = .returned (.tuple #[.agg #[.int .u32 0, .int .u32 0, .int .u32 0, .int .i64 0], .int .i64 90]) ∧ Below w1.heap.size w1 w') := fun w1 => by
    have := I.read none 0 0 [] w1 (rd_nil _ _)
    rw [SB.rd_first (.inl rfl) (by decide)] at this
    exact this
  have CT : Hid (∀ w1 : World, Calls Try.prog 11 #[.slice (some ⟨w1.heap.size, 0, none⟩) 1 1] (w1.alloc (.cells #[.int .u8 83] 5)) fun e w' => e = .returned (.tuple #[.agg #[.int .u32 0, .int .u32 0, .int .u32 0, .int .i64 0], .int .i64 3]) ∧ Below (w1.alloc (.cells #[.int .u8 83] 5)).heap.size (w1.alloc (.cells #[.int .u8 83] 5)) w') := fun w1 => by
    have := I.read (some ⟨w1.heap.size, 0, none⟩) 1 1 [83] _ (rd_lit w1 [83] #[.int .u8 83] 1 1 (0, 0) rfl rfl rfl (by intro x hx; simp at hx; omega) (by show 1 ≤ maxLen; unfold maxLen; decide))
    rw [SB.rd_text (by decide) (by decide)] at this
    exact this
  have KX : Hid (∀ w1, Calls Try.prog 13 #[.agg #[.int .u32 7, .int .u32 0, .int .u32 300, .int .i64 5]] w1 fun e w' => e = .returned (.int .i64 8) ∧ Below w1.heap.size w1 w') := fun w1 => by
    have := I.check 7 0 300 5 w1 (by decide); rw [SB.code_no (by decide)] at this; exact this
  have KY : Hid (∀ w1, Calls Try.prog 13 #[.agg #[.int .u32 7, .int .u32 1, .int .u32 2147483649, .int .i64 5]] w1 fun e w' => e = .returned (.int .i64 8) ∧ Below w1.heap.size w1 w') := fun w1 => by
    have := I.check 7 1 2147483649 5 w1 (by decide); rw [SB.code_no (by decide)] at this; exact this
  have KZ : Hid (∀ w1, Calls Try.prog 13 #[.agg #[.int .u32 7, .int .u32 1, .int .u32 300, .int .i64 255]] w1 fun e w' => e = .returned (.int .i64 8) ∧ Below w1.heap.size w1 w') := fun w1 => by
    have := I.check 7 1 300 255 w1 (by decide); rw [SB.code_no (by decide)] at this; exact this
  have B0 : Hid (Below w.heap.size w w) := Below.refl _ _
  go_enter Try.func3, Try.ntmps3
  go_wp2_with fail
  (with_reducible refine (CO.out _).mono ?_)
  rintro e w1 ⟨rfl, b1⟩
  have B1 := Lib.hid (thence B0.out b1 (Nat.le_refl _))
  clear b1 B0
  go_wp2_with fail
  (with_reducible refine (CW.out _).mono ?_)
  rintro e w2 ⟨a1, k1, rfl, r1, b2⟩
  have B2 := Lib.hid (thence B1.out b2 (Nat.le_refl _))
  have R1 := Lib.hid r1
  clear r1
  clear b2 B1
  go_wp2_with fail
  (with_reducible refine (CR.out _ _ _ R1.out).mono ?_)
  rintro e w3 ⟨rfl, b3⟩
  replace R1 := Lib.hid (R1.out.here b3)
  have ha3 : Below w3.heap.size w3 (w3.alloc (.cells #[.int .u32 7, .int .u32 1, .int .u32 300, .int .i64 5] 28)) := (Below.refl _ _).alloc (Nat.le_refl _) _
  replace R1 := Lib.hid (R1.out.here ha3)
  have B1x : Hid (Bx (w3.alloc (.cells #[.int .u32 7, .int .u32 1, .int .u32 300, .int .i64 5] 28)) w3.heap.size [.int .u32 7, .int .u32 1, .int .u32 300, .int .i64 5]) := Bx.new w3 [.int .u32 7, .int .u32 1, .int .u32 300, .int .i64 5] 28
  have B3 := Lib.hid (thence B2.out (thence b3 ha3 (Nat.le_refl _)) (Nat.le_refl _))
  clear ha3
  clear b3 B2
  obtain ⟨p0, p1, p2, p3⟩ := B1x.out.four'
  have ltB1x := B1x.out.lt
  go_wp2_with fail
  (with_reducible refine (CN.out _).mono ?_)
  rintro e w4 ⟨rfl, b4⟩
  clear p0 p1 p2 p3 ltB1x
  replace R1 := Lib.hid (R1.out.here b4)
  replace B1x := Lib.hid (B1x.out.here b4)
  have ha4 : Below w4.heap.size w4 (w4.alloc (.cells #[.int .u32 0, .int .u32 0, .int .u32 0, .int .i64 0] 28)) := (Below.refl _ _).alloc (Nat.le_refl _) _
  replace R1 := Lib.hid (R1.out.here ha4)
  replace B1x := Lib.hid (B1x.out.here ha4)
  have B2x : Hid (Bx (w4.alloc (.cells #[.int .u32 0, .int .u32 0, .int .u32 0, .int .i64 0] 28)) w4.heap.size [.int .u32 0, .int .u32 0, .int .u32 0, .int .i64 0]) := Bx.new w4 [.int .u32 0, .int .u32 0, .int .u32 0, .int .i64 0] 28
  have B4 := Lib.hid (thence B3.out (thence b4 ha4 (Nat.le_refl _)) (Nat.le_refl _))
  clear ha4
  clear b4 B3
  obtain ⟨p0, p1, p2, p3⟩ := B1x.out.four'
  have ltB1x := B1x.out.lt
  go_wp2_with fail
  have hl4 : Below (w4.alloc (.cells #[.int .u32 0, .int .u32 0, .int .u32 0, .int .i64 0] 28)).heap.size (w4.alloc (.cells #[.int .u32 0, .int .u32 0, .int .u32 0, .int .i64 0] 28)) ((w4.alloc (.cells #[.int .u32 0, .int .u32 0, .int .u32 0, .int .i64 0] 28)).alloc (.cells #[.int .u8 83] 5)) := (Below.refl _ _).alloc (Nat.le_refl _) _
  have CTx := CT.out (w4.alloc (.cells #[.int .u32 0, .int .u32 0, .int .u32 0, .int .i64 0] 28))
  rw [show (w4.alloc (.cells #[.int .u32 0, .int .u32 0, .int .u32 0, .int .i64 0] 28)).heap.size = w4.heap.size + 1 from by simp] at CTx
  (with_reducible refine CTx.mono ?_)
  rintro e w5 ⟨rfl, b5⟩
  clear CTx
  clear p0 p1 p2 p3 ltB1x
  have b5' := thence hl4 b5 (Nat.le_refl _)
  have ha5 : Below w5.heap.size w5 (w5.alloc (.cells #[.int .u32 0, .int .u32 0, .int .u32 0, .int .i64 0] 28)) := (Below.refl _ _).alloc (Nat.le_refl _) _
  have b6 := thence b5' ha5 (Nat.le_refl _)
  replace R1 := Lib.hid (R1.out.here b6)
  replace B1x := Lib.hid (B1x.out.here b6)
  have B5 := Lib.hid (thence B4.out b6 (Nat.le_refl _))
  clear b5 b5' ha5 b6 hl4 B4
  obtain ⟨p0, p1, p2, p3⟩ := B1x.out.four'
  have ltB1x := B1x.out.lt
  go_wp2_with fail
  (with_reducible refine (CO.out _).mono ?_)
  rintro e w6 ⟨rfl, b6⟩
  clear p0 p1 p2 p3 ltB1x
  replace R1 := Lib.hid (R1.out.here b6)
  replace B1x := Lib.hid (B1x.out.here b6)
  have B6 := Lib.hid (thence B5.out b6 (Nat.le_refl _))
  clear b6 B5
  obtain ⟨p0, p1, p2, p3⟩ := B1x.out.four'
  have ltB1x := B1x.out.lt
  go_wp2_with fail
  (with_reducible refine (CO.out _).mono ?_)
  rintro e w7 ⟨rfl, b7⟩
  clear p0 p1 p2 p3 ltB1x
  replace R1 := Lib.hid (R1.out.here b7)
  replace B1x := Lib.hid (B1x.out.here b7)
  have B7 := Lib.hid (thence B6.out b7 (Nat.le_refl _))
  clear b7 B6
  obtain ⟨p0, p1, p2, p3⟩ := B1x.out.four'
  have ltB1x := B1x.out.lt
  go_wp2_with fail
  (with_reducible refine (CO.out _).mono ?_)
  rintro e w8 ⟨rfl, b8⟩
  clear p0 p1 p2 p3 ltB1x
  replace R1 := Lib.hid (R1.out.here b8)
  replace B1x := Lib.hid (B1x.out.here b8)
  have B8 := Lib.hid (thence B7.out b8 (Nat.le_refl _))
  clear b8 B7
  obtain ⟨p0, p1, p2, p3⟩ := B1x.out.four'
  have ltB1x := B1x.out.lt
  go_wp2_with fail
  have ha : Below w8.heap.size w8 (w8.alloc (.cells #[.int .u32 7, .int .u32 0, .int .u32 300, .int .i64 5] 28)) := (Below.refl _ _).alloc (Nat.le_refl _) _
  have hb : Below (w8.alloc (.cells #[.int .u32 7, .int .u32 0, .int .u32 300, .int .i64 5] 28)).heap.size (w8.alloc (.cells #[.int .u32 7, .int .u32 0, .int .u32 300, .int .i64 5] 28)) ((w8.alloc (.cells #[.int .u32 7, .int .u32 0, .int .u32 300, .int .i64 5] 28)).alloc (.cells #[.int .u32 7, .int .u32 1, .int .u32 2147483649, .int .i64 5] 28)) := (Below.refl _ _).alloc (Nat.le_refl _) _
  have hc : Below ((w8.alloc (.cells #[.int .u32 7, .int .u32 0, .int .u32 300, .int .i64 5] 28)).alloc (.cells #[.int .u32 7, .int .u32 1, .int .u32 2147483649, .int .i64 5] 28)).heap.size ((w8.alloc (.cells #[.int .u32 7, .int .u32 0, .int .u32 300, .int .i64 5] 28)).alloc (.cells #[.int .u32 7, .int .u32 1, .int .u32 2147483649, .int .i64 5] 28)) (((w8.alloc (.cells #[.int .u32 7, .int .u32 0, .int .u32 300, .int .i64 5] 28)).alloc (.cells #[.int .u32 7, .int .u32 1, .int .u32 2147483649, .int .i64 5] 28)).alloc (.cells #[.int .u32 7, .int .u32 1, .int .u32 300, .int .i64 255] 28)) := (Below.refl _ _).alloc (Nat.le_refl _) _
  have e1 : (w8.alloc (.cells #[.int .u32 7, .int .u32 0, .int .u32 300, .int .i64 5] 28)).heap.size = w8.heap.size + 1 := by simp
  have e2 : ((w8.alloc (.cells #[.int .u32 7, .int .u32 0, .int .u32 300, .int .i64 5] 28)).alloc (.cells #[.int .u32 7, .int .u32 1, .int .u32 2147483649, .int .i64 5] 28)).heap.size = w8.heap.size + 1 + 1 := by simp
  have BX : Hid (Bx (((w8.alloc (.cells #[.int .u32 7, .int .u32 0, .int .u32 300, .int .i64 5] 28)).alloc (.cells #[.int .u32 7, .int .u32 1, .int .u32 2147483649, .int .i64 5] 28)).alloc (.cells #[.int .u32 7, .int .u32 1, .int .u32 300, .int .i64 255] 28)) w8.heap.size [.int .u32 7, .int .u32 0, .int .u32 300, .int .i64 5]) := ((Bx.new w8 [.int .u32 7, .int .u32 0, .int .u32 300, .int .i64 5] 28).here hb).here hc
  have BY : Hid (Bx (((w8.alloc (.cells #[.int .u32 7, .int .u32 0, .int .u32 300, .int .i64 5] 28)).alloc (.cells #[.int .u32 7, .int .u32 1, .int .u32 2147483649, .int .i64 5] 28)).alloc (.cells #[.int .u32 7, .int .u32 1, .int .u32 300, .int .i64 255] 28)) (w8.heap.size + 1) [.int .u32 7, .int .u32 1, .int .u32 2147483649, .int .i64 5]) := by
    have := (Bx.new (w8.alloc (.cells #[.int .u32 7, .int .u32 0, .int .u32 300, .int .i64 5] 28)) [.int .u32 7, .int .u32 1, .int .u32 2147483649, .int .i64 5] 28).here hc
    rw [e1] at this
    exact this
  have BZ : Hid (Bx (((w8.alloc (.cells #[.int .u32 7, .int .u32 0, .int .u32 300, .int .i64 5] 28)).alloc (.cells #[.int .u32 7, .int .u32 1, .int .u32 2147483649, .int .i64 5] 28)).alloc (.cells #[.int .u32 7, .int .u32 1, .int .u32 300, .int .i64 255] 28)) (w8.heap.size + 1 + 1) [.int .u32 7, .int .u32 1, .int .u32 300, .int .i64 255]) := by
    have := Bx.new ((w8.alloc (.cells #[.int .u32 7, .int .u32 0, .int .u32 300, .int .i64 5] 28)).alloc (.cells #[.int .u32 7, .int .u32 1, .int .u32 2147483649, .int .i64 5] 28)) [.int .u32 7, .int .u32 1, .int .u32 300, .int .i64 255] 28
    rw [e2] at this
    exact this
  have b9 : Below w8.heap.size w8 (((w8.alloc (.cells #[.int .u32 7, .int .u32 0, .int .u32 300, .int .i64 5] 28)).alloc (.cells #[.int .u32 7, .int .u32 1, .int .u32 2147483649, .int .i64 5] 28)).alloc (.cells #[.int .u32 7, .int .u32 1, .int .u32 300, .int .i64 255] 28)) := thence (thence ha hb (Nat.le_refl _)) hc (Nat.le_refl _)
  clear p0 p1 p2 p3 ltB1x
  replace B1x := Lib.hid (B1x.out.here b9)
  have B9 := Lib.hid (thence B8.out b9 (Nat.le_refl _))
  clear ha hb hc e1 e2 b9 B8
  generalize ((w8.alloc (.cells #[.int .u32 7, .int .u32 0, .int .u32 300, .int .i64 5] 28)).alloc (.cells #[.int .u32 7, .int .u32 1, .int .u32 2147483649, .int .i64 5] 28)).alloc (.cells #[.int .u32 7, .int .u32 1, .int .u32 300, .int .i64 255] 28) = w9 at *
  obtain ⟨p0, p1, p2, p3⟩ := B1x.out.four'
  have ltp := B1x.out.lt
  obtain ⟨x0, x1, x2, x3⟩ := BX.out.four'
  have ltx := BX.out.lt
  obtain ⟨y0, y1, y2, y3⟩ := BY.out.four'
  have lty := BY.out.lt
  obtain ⟨z0, z1, z2, z3⟩ := BZ.out.four'
  have ltz := BZ.out.lt
  refine wp_region_noPanic ?_
  refine PX.wp_region_y (fun w' => Below w9.heap.size w9 w') [] (by kernel_rfl) (Below.refl _ _).drew (fun hHeld => ?_)
  refine PX.wpAnyY_one (i := 0) (o := ?_) (by kernel_rfl) ?_ (fun Kq hKq => ?_)
  rotate_left
  · simp only [List.getElem?_toArray, List.getElem?_cons_succ, List.getElem?_cons_zero]; rfl
  go_simp
  refine hKq.out _ _ (hHeld) (fun hHeld => ?_)
  clear hKq Kq
  (try simp only [Act.put, List.setIfInBounds_toArray, List.set_cons_zero, List.set_cons_succ])
  refine PX.wpAnyY_one (i := 1) (o := ?_) (by kernel_rfl) ?_ (fun Kq hKq => ?_)
  rotate_left
  · simp only [List.getElem?_toArray, List.getElem?_cons_succ, List.getElem?_cons_zero]; rfl
  go_simp
  (with_reducible refine (CA.out _).mono ?_)
  rintro e u1 ⟨rfl, bqu1⟩
  have Hu1 := Lib.hid (thence hHeld bqu1 (Nat.le_refl _))
  clear bqu1
  go_wp2_with fail
  refine hKq.out _ _ (Hu1.out) (fun hHeld => ?_)
  clear hKq Kq
  (try simp only [Act.put, List.setIfInBounds_toArray, List.set_cons_zero, List.set_cons_succ])
  refine PX.wpAnyY_one (i := 2) (o := ?_) (by kernel_rfl) ?_ (fun Kq hKq => ?_)
  rotate_left
  · simp only [List.getElem?_toArray, List.getElem?_cons_succ, List.getElem?_cons_zero]; rfl
  go_simp
  refine hKq.out _ _ (hHeld) (fun hHeld => ?_)
  clear hKq Kq
  (try simp only [Act.put, List.setIfInBounds_toArray, List.set_cons_zero, List.set_cons_succ])
  refine PX.wpAnyY_one (i := 3) (o := ?_) (by kernel_rfl) ?_ (fun Kq hKq => ?_)
  rotate_left
  · simp only [List.getElem?_toArray, List.getElem?_cons_succ, List.getElem?_cons_zero]; rfl
  go_simp
  refine hKq.out _ _ (hHeld) (fun hHeld => ?_)
  clear hKq Kq
  (try simp only [Act.put, List.setIfInBounds_toArray, List.set_cons_zero, List.set_cons_succ])
  refine PX.wpAnyY_one (i := 4) (o := ?_) (by kernel_rfl) ?_ (fun Kq hKq => ?_)
  rotate_left
  · simp only [List.getElem?_toArray, List.getElem?_cons_succ, List.getElem?_cons_zero]; rfl
  go_simp
  refine hKq.out _ _ (hHeld) (fun hHeld => ?_)
  clear hKq Kq
  (try simp only [Act.put, List.setIfInBounds_toArray, List.set_cons_zero, List.set_cons_succ])
  refine PX.wpAnyY_one (i := 5) (o := ?_) (by kernel_rfl) ?_ (fun Kq hKq => ?_)
  rotate_left
  · simp only [List.getElem?_toArray, List.getElem?_cons_succ, List.getElem?_cons_zero]; rfl
  go_simp
  refine hKq.out _ _ (hHeld) (fun hHeld => ?_)
  clear hKq Kq
  (try simp only [Act.put, List.setIfInBounds_toArray, List.set_cons_zero, List.set_cons_succ])
  refine PX.wpAnyY_one (i := 6) (o := ?_) (by kernel_rfl) ?_ (fun Kq hKq => ?_)
  rotate_left
  · simp only [List.getElem?_toArray, List.getElem?_cons_succ, List.getElem?_cons_zero]; rfl
  go_simp
  refine hKq.out _ _ (hHeld) (fun hHeld => ?_)
  clear hKq Kq
  (try simp only [Act.put, List.setIfInBounds_toArray, List.set_cons_zero, List.set_cons_succ])
  refine PX.wpAnyY_one (i := 7) (o := ?_) (by kernel_rfl) ?_ (fun Kq hKq => ?_)
  rotate_left
  · simp only [List.getElem?_toArray, List.getElem?_cons_succ, List.getElem?_cons_zero]; rfl
  go_simp
  refine hKq.out _ _ (hHeld) (fun hHeld => ?_)
  clear hKq Kq
  (try simp only [Act.put, List.setIfInBounds_toArray, List.set_cons_zero, List.set_cons_succ])
  refine PX.wpAnyY_take (i := 8) (oi := ?_) (v := ?_) ?_ (by kernel_rfl) (by kernel_rfl) (by kernel_rfl) (by kernel_rfl) (by kernel_rfl) (fun _ _ _ h => h) (Or.inl ⟨?_, ?_⟩) (by assumption) ?_
  rotate_left 2
  · simp only [List.getElem?_toArray, List.getElem?_cons_succ, List.getElem?_cons_zero]; rfl
  · rfl
  · intro w hSw; (try dsimp only at hSw); have hC := fun (b o : Nat) (h : b < w9.heap.size) => Below.cell hSw (p := ⟨b, o, none⟩) h; go_simp <;> with_reducible rfl
  (try simp only [Act.put, List.setIfInBounds_toArray, List.set_cons_zero, List.set_cons_succ])
  refine PX.wpAnyY_one (i := 9) (o := ?_) (by kernel_rfl) ?_ (fun Kq hKq => ?_)
  rotate_left
  · simp only [List.getElem?_toArray, List.getElem?_cons_succ, List.getElem?_cons_zero]; rfl
  go_simp
  (with_reducible refine (CO.out _).mono ?_)
  rintro e u9 ⟨rfl, bqu9⟩
  have Hu9 := Lib.hid (thence hHeld bqu9 (Nat.le_refl _))
  clear bqu9
  go_wp2_with fail
  refine hKq.out _ _ (Hu9.out) (fun hHeld => ?_)
  clear hKq Kq
  (try simp only [Act.put, List.setIfInBounds_toArray, List.set_cons_zero, List.set_cons_succ])
  refine PX.wpAnyY_one (i := 10) (o := ?_) (by kernel_rfl) ?_ (fun Kq hKq => ?_)
  rotate_left
  · simp only [List.getElem?_toArray, List.getElem?_cons_succ, List.getElem?_cons_zero]; rfl
  go_simp
  refine hKq.out _ _ (hHeld) (fun hHeld => ?_)
  clear hKq Kq
  (try simp only [Act.put, List.setIfInBounds_toArray, List.set_cons_zero, List.set_cons_succ])
  refine PX.wpAnyY_one (i := 11) (o := ?_) (by kernel_rfl) ?_ (fun Kq hKq => ?_)
  rotate_left
  · simp only [List.getElem?_toArray, List.getElem?_cons_succ, List.getElem?_cons_zero]; rfl
  go_simp
  refine hKq.out _ _ (hHeld) (fun hHeld => ?_)
  clear hKq Kq
  (try simp only [Act.put, List.setIfInBounds_toArray, List.set_cons_zero, List.set_cons_succ])
  refine PX.wpAnyY_one (i := 12) (o := ?_) (by kernel_rfl) ?_ (fun Kq hKq => ?_)
  rotate_left
  · simp only [List.getElem?_toArray, List.getElem?_cons_succ, List.getElem?_cons_zero]; rfl
  go_simp
  refine hKq.out _ _ (hHeld) (fun hHeld => ?_)
  clear hKq Kq
  (try simp only [Act.put, List.setIfInBounds_toArray, List.set_cons_zero, List.set_cons_succ])
  refine PX.wpAnyY_one (i := 13) (o := ?_) (by kernel_rfl) ?_ (fun Kq hKq => ?_)
  rotate_left
  · simp only [List.getElem?_toArray, List.getElem?_cons_succ, List.getElem?_cons_zero]; rfl
  go_simp
  refine hKq.out _ _ (hHeld) (fun hHeld => ?_)
  clear hKq Kq
  (try simp only [Act.put, List.setIfInBounds_toArray, List.set_cons_zero, List.set_cons_succ])
  refine PX.wpAnyY_one (i := 14) (o := ?_) (by kernel_rfl) ?_ (fun Kq hKq => ?_)
  rotate_left
  · simp only [List.getElem?_toArray, List.getElem?_cons_succ, List.getElem?_cons_zero]; rfl
  go_simp
  refine hKq.out _ _ (hHeld) (fun hHeld => ?_)
  clear hKq Kq
  (try simp only [Act.put, List.setIfInBounds_toArray, List.set_cons_zero, List.set_cons_succ])
  refine PX.wpAnyY_one (i := 15) (o := ?_) (by kernel_rfl) ?_ (fun Kq hKq => ?_)
  rotate_left
  · simp only [List.getElem?_toArray, List.getElem?_cons_succ, List.getElem?_cons_zero]; rfl
  go_simp
  refine hKq.out _ _ (hHeld) (fun hHeld => ?_)
  clear hKq Kq
  (try simp only [Act.put, List.setIfInBounds_toArray, List.set_cons_zero, List.set_cons_succ])
  refine PX.wpAnyY_one (i := 16) (o := ?_) (by kernel_rfl) ?_ (fun Kq hKq => ?_)
  rotate_left
  · simp only [List.getElem?_toArray, List.getElem?_cons_succ, List.getElem?_cons_zero]; rfl
  go_simp
  refine hKq.out _ _ (hHeld) (fun hHeld => ?_)
  clear hKq Kq
  (try simp only [Act.put, List.setIfInBounds_toArray, List.set_cons_zero, List.set_cons_succ])
  refine PX.wpAnyY_one (i := 17) (o := ?_) (by kernel_rfl) ?_ (fun Kq hKq => ?_)
  rotate_left
  · simp only [List.getElem?_toArray, List.getElem?_cons_succ, List.getElem?_cons_zero]; rfl
  go_simp
  refine hKq.out _ _ (hHeld) (fun hHeld => ?_)
  clear hKq Kq
  (try simp only [Act.put, List.setIfInBounds_toArray, List.set_cons_zero, List.set_cons_succ])
  refine PX.wpAnyY_one (i := 18) (o := ?_) (by kernel_rfl) ?_ (fun Kq hKq => ?_)
  rotate_left
  · simp only [List.getElem?_toArray, List.getElem?_cons_succ, List.getElem?_cons_zero]; rfl
  go_simp
  refine hKq.out _ _ (hHeld) (fun hHeld => ?_)
  clear hKq Kq
  (try simp only [Act.put, List.setIfInBounds_toArray, List.set_cons_zero, List.set_cons_succ])
  refine PX.wpAnyY_one (i := 19) (o := ?_) (by kernel_rfl) ?_ (fun Kq hKq => ?_)
  rotate_left
  · simp only [List.getElem?_toArray, List.getElem?_cons_succ, List.getElem?_cons_zero]; rfl
  go_simp
  refine hKq.out _ _ (hHeld) (fun hHeld => ?_)
  clear hKq Kq
  (try simp only [Act.put, List.setIfInBounds_toArray, List.set_cons_zero, List.set_cons_succ])
  refine PX.wpAnyY_one (i := 20) (o := ?_) (by kernel_rfl) ?_ (fun Kq hKq => ?_)
  rotate_left
  · simp only [List.getElem?_toArray, List.getElem?_cons_succ, List.getElem?_cons_zero]; rfl
  go_simp
  refine hKq.out _ _ (hHeld) (fun hHeld => ?_)
  clear hKq Kq
  (try simp only [Act.put, List.setIfInBounds_toArray, List.set_cons_zero, List.set_cons_succ])
  refine PX.wpAnyY_take (i := 21) (oi := ?_) (v := ?_) ?_ (by kernel_rfl) (by kernel_rfl) (by kernel_rfl) (by kernel_rfl) (by kernel_rfl) (fun _ _ _ h => h) (Or.inl ⟨?_, ?_⟩) (by assumption) ?_
  rotate_left 2
  · simp only [List.getElem?_toArray, List.getElem?_cons_succ, List.getElem?_cons_zero]; rfl
  · rfl
  · intro w hSw; (try dsimp only at hSw); have hC := fun (b o : Nat) (h : b < w9.heap.size) => Below.cell hSw (p := ⟨b, o, none⟩) h; go_simp <;> with_reducible rfl
  (try simp only [Act.put, List.setIfInBounds_toArray, List.set_cons_zero, List.set_cons_succ])
  refine PX.wpAnyY_one (i := 22) (o := ?_) (by kernel_rfl) ?_ (fun Kq hKq => ?_)
  rotate_left
  · simp only [List.getElem?_toArray, List.getElem?_cons_succ, List.getElem?_cons_zero]; rfl
  go_simp
  (with_reducible refine (KX.out _).mono ?_)
  rintro e u22 ⟨rfl, bqu22⟩
  have Hu22 := Lib.hid (thence hHeld bqu22 (Nat.le_refl _))
  clear bqu22
  go_wp2_with fail
  refine hKq.out _ _ (Hu22.out) (fun hHeld => ?_)
  clear hKq Kq
  (try simp only [Act.put, List.setIfInBounds_toArray, List.set_cons_zero, List.set_cons_succ])
  refine PX.wpAnyY_one (i := 23) (o := ?_) (by kernel_rfl) ?_ (fun Kq hKq => ?_)
  rotate_left
  · simp only [List.getElem?_toArray, List.getElem?_cons_succ, List.getElem?_cons_zero]; rfl
  go_simp
  refine hKq.out _ _ (hHeld) (fun hHeld => ?_)
  clear hKq Kq
  (try simp only [Act.put, List.setIfInBounds_toArray, List.set_cons_zero, List.set_cons_succ])
  refine PX.wpAnyY_one (i := 24) (o := ?_) (by kernel_rfl) ?_ (fun Kq hKq => ?_)
  rotate_left
  · simp only [List.getElem?_toArray, List.getElem?_cons_succ, List.getElem?_cons_zero]; rfl
  go_simp
  refine hKq.out _ _ (hHeld) (fun hHeld => ?_)
  clear hKq Kq
  (try simp only [Act.put, List.setIfInBounds_toArray, List.set_cons_zero, List.set_cons_succ])
  refine PX.wpAnyY_one (i := 25) (o := ?_) (by kernel_rfl) ?_ (fun Kq hKq => ?_)
  rotate_left
  · simp only [List.getElem?_toArray, List.getElem?_cons_succ, List.getElem?_cons_zero]; rfl
  go_simp
  refine hKq.out _ _ (hHeld) (fun hHeld => ?_)
  clear hKq Kq
  (try simp only [Act.put, List.setIfInBounds_toArray, List.set_cons_zero, List.set_cons_succ])
  refine PX.wpAnyY_take (i := 26) (oi := ?_) (v := ?_) ?_ (by kernel_rfl) (by kernel_rfl) (by kernel_rfl) (by kernel_rfl) (by kernel_rfl) (fun _ _ _ h => h) (Or.inl ⟨?_, ?_⟩) (by assumption) ?_
  rotate_left 2
  · simp only [List.getElem?_toArray, List.getElem?_cons_succ, List.getElem?_cons_zero]; rfl
  · rfl
  · intro w hSw; (try dsimp only at hSw); have hC := fun (b o : Nat) (h : b < w9.heap.size) => Below.cell hSw (p := ⟨b, o, none⟩) h; go_simp <;> with_reducible rfl
  (try simp only [Act.put, List.setIfInBounds_toArray, List.set_cons_zero, List.set_cons_succ])
  refine PX.wpAnyY_one (i := 27) (o := ?_) (by kernel_rfl) ?_ (fun Kq hKq => ?_)
  rotate_left
  · simp only [List.getElem?_toArray, List.getElem?_cons_succ, List.getElem?_cons_zero]; rfl
  go_simp
  (with_reducible refine (KY.out _).mono ?_)
  rintro e u27 ⟨rfl, bqu27⟩
  have Hu27 := Lib.hid (thence hHeld bqu27 (Nat.le_refl _))
  clear bqu27
  go_wp2_with fail
  refine hKq.out _ _ (Hu27.out) (fun hHeld => ?_)
  clear hKq Kq
  (try simp only [Act.put, List.setIfInBounds_toArray, List.set_cons_zero, List.set_cons_succ])
  refine PX.wpAnyY_one (i := 28) (o := ?_) (by kernel_rfl) ?_ (fun Kq hKq => ?_)
  rotate_left
  · simp only [List.getElem?_toArray, List.getElem?_cons_succ, List.getElem?_cons_zero]; rfl
  go_simp
  refine hKq.out _ _ (hHeld) (fun hHeld => ?_)
  clear hKq Kq
  (try simp only [Act.put, List.setIfInBounds_toArray, List.set_cons_zero, List.set_cons_succ])
  refine PX.wpAnyY_one (i := 29) (o := ?_) (by kernel_rfl) ?_ (fun Kq hKq => ?_)
  rotate_left
  · simp only [List.getElem?_toArray, List.getElem?_cons_succ, List.getElem?_cons_zero]; rfl
  go_simp
  refine hKq.out _ _ (hHeld) (fun hHeld => ?_)
  clear hKq Kq
  (try simp only [Act.put, List.setIfInBounds_toArray, List.set_cons_zero, List.set_cons_succ])
  refine PX.wpAnyY_one (i := 30) (o := ?_) (by kernel_rfl) ?_ (fun Kq hKq => ?_)
  rotate_left
  · simp only [List.getElem?_toArray, List.getElem?_cons_succ, List.getElem?_cons_zero]; rfl
  go_simp
  refine hKq.out _ _ (hHeld) (fun hHeld => ?_)
  clear hKq Kq
  (try simp only [Act.put, List.setIfInBounds_toArray, List.set_cons_zero, List.set_cons_succ])
  refine PX.wpAnyY_take (i := 31) (oi := ?_) (v := ?_) ?_ (by kernel_rfl) (by kernel_rfl) (by kernel_rfl) (by kernel_rfl) (by kernel_rfl) (fun _ _ _ h => h) (Or.inl ⟨?_, ?_⟩) (by assumption) ?_
  rotate_left 2
  · simp only [List.getElem?_toArray, List.getElem?_cons_succ, List.getElem?_cons_zero]; rfl
  · rfl
  · intro w hSw; (try dsimp only at hSw); have hC := fun (b o : Nat) (h : b < w9.heap.size) => Below.cell hSw (p := ⟨b, o, none⟩) h; go_simp <;> with_reducible rfl
  (try simp only [Act.put, List.setIfInBounds_toArray, List.set_cons_zero, List.set_cons_succ])
  refine PX.wpAnyY_one (i := 32) (o := ?_) (by kernel_rfl) ?_ (fun Kq hKq => ?_)
  rotate_left
  · simp only [List.getElem?_toArray, List.getElem?_cons_succ, List.getElem?_cons_zero]; rfl
  go_simp
  (with_reducible refine (KZ.out _).mono ?_)
  rintro e u32 ⟨rfl, bqu32⟩
  have Hu32 := Lib.hid (thence hHeld bqu32 (Nat.le_refl _))
  clear bqu32
  go_wp2_with fail
  refine hKq.out _ _ (Hu32.out) (fun hHeld => ?_)
  clear hKq Kq
  (try simp only [Act.put, List.setIfInBounds_toArray, List.set_cons_zero, List.set_cons_succ])
  refine PX.wpAnyY_one (i := 33) (o := ?_) (by kernel_rfl) ?_ (fun Kq hKq => ?_)
  rotate_left
  · simp only [List.getElem?_toArray, List.getElem?_cons_succ, List.getElem?_cons_zero]; rfl
  go_simp
  refine hKq.out _ _ (hHeld) (fun hHeld => ?_)
  clear hKq Kq
  (try simp only [Act.put, List.setIfInBounds_toArray, List.set_cons_zero, List.set_cons_succ])
  refine PX.wpAnyY_one (i := 34) (o := ?_) (by kernel_rfl) ?_ (fun Kq hKq => ?_)
  rotate_left
  · simp only [List.getElem?_toArray, List.getElem?_cons_succ, List.getElem?_cons_zero]; rfl
  go_simp
  refine hKq.out _ _ (hHeld) (fun hHeld => ?_)
  clear hKq Kq
  (try simp only [Act.put, List.setIfInBounds_toArray, List.set_cons_zero, List.set_cons_succ])
  refine PX.wpAnyY_one (i := 35) (o := ?_) (by kernel_rfl) ?_ (fun Kq hKq => ?_)
  rotate_left
  · simp only [List.getElem?_toArray, List.getElem?_cons_succ, List.getElem?_cons_zero]; rfl
  go_simp
  refine hKq.out _ _ (hHeld) (fun hHeld => ?_)
  clear hKq Kq
  (try simp only [Act.put, List.setIfInBounds_toArray, List.set_cons_zero, List.set_cons_succ])
  refine PX.wpAnyY_done (by kernel_rfl) ?_ _
  refine NoPanic.normal ?_
  have HE := Lib.hid (thence B9.out Hu32.out (Nat.le_refl _))
  clear hHeld
  go_wp2_with fail
  go_ret
  exact ⟨rfl, HE.out⟩
end Go.Proofs.Ytjdcnajppjamgaa.PW
