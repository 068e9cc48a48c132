/-
  Layer 9's laws, given what the program's calls answer.
-/
import Derived.Test.YtleaphlignfkjaaLabelLaws
namespace Go.Proofs.Ytleaphlignfkjaa.PW
open Go.RowKit
open SK (Cfg)
open LB (Lab)
set_option linter.unusedVariables false
set_option linter.unusedSimpArgs false
set_option maxRecDepth 100000

set_option maxHeartbeats 2000000 in
theorem labelWrites_walk (I : LabelIs) (id ev : Nat) (mem chunk rows log me lost done : Int) (op : Bool) (w : World) (hid : id < 4294967296) :
    Calls Try.prog 4 #[.agg #[.int .u32 (id : Int), .int .u32 (ev : Int), .int .i64 mem, .int .i64 chunk, .int .i64 rows, .int .i64 log, .int .i64 me, .int .i64 lost, .int .i64 done, .bool op]] w fun e w' => e = .returned (.bool true) ∧ Below w.heap.size w w' := by
  have B0 : Hid (Below w.heap.size w (w.alloc (.cells #[.int .u32 (id : Int), .int .u32 (ev : Int), .int .i64 mem, .int .i64 chunk, .int .i64 rows, .int .i64 log, .int .i64 me, .int .i64 lost, .int .i64 done, .bool op] 28))) := (Below.refl _ _).alloc (Nat.le_refl _) _
  have BX := Lib.hid (Bx.new w [.int .u32 (id : Int), .int .u32 (ev : Int), .int .i64 mem, .int .i64 chunk, .int .i64 rows, .int .i64 log, .int .i64 me, .int .i64 lost, .int .i64 done, .bool op] 28)
  cases hm : Lab.may ⟨id, ev, mem, chunk, rows, log, me, lost, done, op⟩ with
  | true =>
    have HKL : Hid ((Lab.block ⟨id, ev, mem, chunk, rows, log, me, lost, done, op⟩).length = 128) := LB.block_length _
    have CW := Lib.hid (fun w1 => I.yes id ev mem chunk rows log me lost done op w1 hid (LB.may_iff.1 hm))
    have CV : Hid (∀ w1, Calls Try.prog 15 #[.agg #[.int .u32 (id : Int), .int .u32 (ev : Int), .int .i64 mem, .int .i64 chunk, .int .i64 rows, .int .i64 log, .int .i64 me, .int .i64 lost, .int .i64 done, .bool op]] w1 fun e w' => ∃ a c, e = .returned (.tuple #[.slice a 128 c, .int .i64 0]) ∧ Rd w'.heap.size w' a 128 c (Lab.block ⟨id, ev, mem, chunk, rows, log, me, lost, done, op⟩) ∧ Below w1.heap.size w1 w') := fun w1 => (refLWrite_any id ev mem chunk rows log me lost done op w1 hid).mono (by
      rintro e w' ⟨a, n, c, he, hr, hb⟩
      rw [LB.code_yes hm, LB.text_yes hm] at *
      have hl := hr.long
      rw [HKL.out] at hl
      subst hl
      exact ⟨a, c, he, hr, hb⟩)
    have CK : Hid (∀ w1, Calls Try.prog 14 #[.agg #[.int .u32 (id : Int), .int .u32 (ev : Int), .int .i64 mem, .int .i64 chunk, .int .i64 rows, .int .i64 log, .int .i64 me, .int .i64 lost, .int .i64 done, .bool op]] w1 fun e w' => e = .returned (.int .i64 0) ∧ Below w1.heap.size w1 w') := fun w1 => by have := I.check id ev mem chunk rows log me lost done op w1 hid; rw [LB.code_yes hm] at this; exact this
    have CR : Hid (∀ w1, Calls Try.prog 16 #[.agg #[.int .u32 (id : Int), .int .u32 (ev : Int), .int .i64 mem, .int .i64 chunk, .int .i64 rows, .int .i64 log, .int .i64 me, .int .i64 lost, .int .i64 done, .bool op]] w1 fun e w' => e = .returned (.int .i64 0) ∧ Below w1.heap.size w1 w') := fun w1 => by have := refLCheck_any id ev mem chunk rows log me lost done op w1; rw [LB.code_yes hm] at this; exact this
    clear hm
    generalize Lab.block ⟨id, ev, mem, chunk, rows, log, me, lost, done, op⟩ = K at *
    go_enter Try.func4, Try.ntmps4
    go_wp2_with fail
    replace BX : Hid (Bx (w.alloc (.cells #[.int .u32 (id : Int), .int .u32 (ev : Int), .int .i64 mem, .int .i64 chunk, .int .i64 rows, .int .i64 log, .int .i64 me, .int .i64 lost, .int .i64 done, .bool op] 28)) w.heap.size [.int .u32 (id : Int), .int .u32 (ev : Int), .int .i64 mem, .int .i64 chunk, .int .i64 rows, .int .i64 log, .int .i64 me, .int .i64 lost, .int .i64 done, .bool op]) := BX
    generalize w.alloc (.cells #[.int .u32 (id : Int), .int .u32 (ev : Int), .int .i64 mem, .int .i64 chunk, .int .i64 rows, .int .i64 log, .int .i64 me, .int .i64 lost, .int .i64 done, .bool op] 28) = W0 at *
    obtain ⟨c0, c1, c2, c3, c4, c5, c6, c7, c8, c9⟩ := BX.out.ten
    have ltBX := BX.out.lt
    (with_reducible refine (CW.out _).mono ?_)
    rintro e w1 ⟨a1, k1, rfl, r1, -, b1⟩
    clear c0 c1 c2 c3 c4 c5 c6 c7 c8 c9 ltBX
    replace BX := Lib.hid (BX.out.here b1)
    have B1 := Lib.hid (thence B0.out b1 (Nat.le_refl _))
    have R1 := Lib.hid r1
    clear r1
    clear b1 B0
    obtain ⟨c0, c1, c2, c3, c4, c5, c6, c7, c8, c9⟩ := BX.out.ten
    have ltBX := BX.out.lt
    go_wp2_with fail
    (with_reducible refine (CV.out _).mono ?_)
    rintro e w2 ⟨a2, k2, rfl, r2, b2⟩
    clear c0 c1 c2 c3 c4 c5 c6 c7 c8 c9 ltBX
    replace BX := Lib.hid (BX.out.here b2)
    replace R1 := Lib.hid (R1.out.here b2)
    have B2 := Lib.hid (thence B1.out b2 (Nat.le_refl _))
    have R2 := Lib.hid r2
    clear r2
    clear b2 B1
    obtain ⟨c0, c1, c2, c3, c4, c5, c6, c7, c8, c9⟩ := BX.out.ten
    have ltBX := BX.out.lt
    go_wp2_with fail
    refine wp_region_noPanic ?_
    refine PX.wp_region_y (fun w' => Below w2.heap.size w2 w') [] (by kernel_rfl) (Below.refl _ _).drew (fun hHeld => ?_)
    refine PX.wpAnyY_take (i := 0) (oi := ?_) (v := ?_) ?_ (by kernel_rfl) (by kernel_rfl) (by kernel_rfl) (by kernel_rfl) (by kernel_rfl) (fun _ _ _ h => h) (Or.inl ⟨?_, ?_⟩) (by assumption) ?_
    rotate_left 2
    · simp only [List.getElem?_toArray, List.getElem?_cons_succ, List.getElem?_cons_zero]; rfl
    · rfl
    · intro w hSw; (try dsimp only at hSw); go_simp <;> with_reducible rfl
    (try simp only [Act.put, List.setIfInBounds_toArray, List.set_cons_zero, List.set_cons_succ])
    refine PX.wpAnyY_take (i := 1) (oi := ?_) (v := ?_) ?_ (by kernel_rfl) (by kernel_rfl) (by kernel_rfl) (by kernel_rfl) (by kernel_rfl) (fun _ _ _ h => h) (Or.inl ⟨?_, ?_⟩) (by assumption) ?_
    rotate_left 2
    · simp only [List.getElem?_toArray, List.getElem?_cons_succ, List.getElem?_cons_zero]; rfl
    · rfl
    · intro w hSw; (try dsimp only at hSw); have T1 := text_is w _ _ _ _ (R1.out.below hSw); go_simp <;> with_reducible rfl
    (try simp only [Act.put, List.setIfInBounds_toArray, List.set_cons_zero, List.set_cons_succ])
    refine PX.wpAnyY_one (i := 2) (o := ?_) (by kernel_rfl) ?_ (fun Kq hKq => ?_)
    rotate_left
    · simp only [List.getElem?_toArray, List.getElem?_cons_succ, List.getElem?_cons_zero]; rfl
    go_simp
    refine hKq.out _ _ (hHeld) (fun hHeld => ?_)
    clear hKq Kq
    (try simp only [Act.put, List.setIfInBounds_toArray, List.set_cons_zero, List.set_cons_succ])
    refine PX.wpAnyY_take (i := 3) (oi := ?_) (v := ?_) ?_ (by kernel_rfl) (by kernel_rfl) (by kernel_rfl) (by kernel_rfl) (by kernel_rfl) (fun _ _ _ h => h) (Or.inl ⟨?_, ?_⟩) (by assumption) ?_
    rotate_left 2
    · simp only [List.getElem?_toArray, List.getElem?_cons_succ, List.getElem?_cons_zero]; rfl
    · rfl
    · intro w hSw; (try dsimp only at hSw); have T2 := text_is w _ _ _ _ (R2.out.below hSw); go_simp <;> with_reducible rfl
    (try simp only [Act.put, List.setIfInBounds_toArray, List.set_cons_zero, List.set_cons_succ])
    refine PX.wpAnyY_one (i := 4) (o := ?_) (by kernel_rfl) ?_ (fun Kq hKq => ?_)
    rotate_left
    · simp only [List.getElem?_toArray, List.getElem?_cons_succ, List.getElem?_cons_zero]; rfl
    go_simp
    refine hKq.out _ _ (hHeld) (fun hHeld => ?_)
    clear hKq Kq
    (try simp only [Act.put, List.setIfInBounds_toArray, List.set_cons_zero, List.set_cons_succ])
    refine PX.wpAnyY_one (i := 5) (o := ?_) (by kernel_rfl) ?_ (fun Kq hKq => ?_)
    rotate_left
    · simp only [List.getElem?_toArray, List.getElem?_cons_succ, List.getElem?_cons_zero]; rfl
    go_simp
    refine hKq.out _ _ (hHeld) (fun hHeld => ?_)
    clear hKq Kq
    (try simp only [Act.put, List.setIfInBounds_toArray, List.set_cons_zero, List.set_cons_succ])
    refine PX.wpAnyY_take (i := 6) (oi := ?_) (v := ?_) ?_ (by kernel_rfl) (by kernel_rfl) (by kernel_rfl) (by kernel_rfl) (by kernel_rfl) (fun _ _ _ h => h) (Or.inl ⟨?_, ?_⟩) (by assumption) ?_
    rotate_left 2
    · simp only [List.getElem?_toArray, List.getElem?_cons_succ, List.getElem?_cons_zero]; rfl
    · rfl
    · intro w hSw; (try dsimp only at hSw); go_simp <;> with_reducible rfl
    (try simp only [Act.put, List.setIfInBounds_toArray, List.set_cons_zero, List.set_cons_succ])
    refine PX.wpAnyY_one (i := 7) (o := ?_) (by kernel_rfl) ?_ (fun Kq hKq => ?_)
    rotate_left
    · simp only [List.getElem?_toArray, List.getElem?_cons_succ, List.getElem?_cons_zero]; rfl
    go_simp
    refine hKq.out _ _ (hHeld) (fun hHeld => ?_)
    clear hKq Kq
    (try simp only [Act.put, List.setIfInBounds_toArray, List.set_cons_zero, List.set_cons_succ])
    refine PX.wpAnyY_one (i := 8) (o := ?_) (by kernel_rfl) ?_ (fun Kq hKq => ?_)
    rotate_left
    · simp only [List.getElem?_toArray, List.getElem?_cons_succ, List.getElem?_cons_zero]; rfl
    go_simp
    refine hKq.out _ _ (hHeld) (fun hHeld => ?_)
    clear hKq Kq
    (try simp only [Act.put, List.setIfInBounds_toArray, List.set_cons_zero, List.set_cons_succ])
    refine PX.wpAnyY_one (i := 9) (o := ?_) (by kernel_rfl) ?_ (fun Kq hKq => ?_)
    rotate_left
    · simp only [List.getElem?_toArray, List.getElem?_cons_succ, List.getElem?_cons_zero]; rfl
    go_simp
    refine hKq.out _ _ (hHeld) (fun hHeld => ?_)
    clear hKq Kq
    (try simp only [Act.put, List.setIfInBounds_toArray, List.set_cons_zero, List.set_cons_succ])
    refine PX.wpAnyY_one (i := 10) (o := ?_) (by kernel_rfl) ?_ (fun Kq hKq => ?_)
    rotate_left
    · simp only [List.getElem?_toArray, List.getElem?_cons_succ, List.getElem?_cons_zero]; rfl
    go_simp
    refine hKq.out _ _ (hHeld) (fun hHeld => ?_)
    clear hKq Kq
    (try simp only [Act.put, List.setIfInBounds_toArray, List.set_cons_zero, List.set_cons_succ])
    refine PX.wpAnyY_take (i := 11) (oi := ?_) (v := ?_) ?_ (by kernel_rfl) (by kernel_rfl) (by kernel_rfl) (by kernel_rfl) (by kernel_rfl) (fun _ _ _ h => h) (Or.inl ⟨?_, ?_⟩) (by assumption) ?_
    rotate_left 2
    · simp only [List.getElem?_toArray, List.getElem?_cons_succ, List.getElem?_cons_zero]; rfl
    · rfl
    · intro w hSw; (try dsimp only at hSw); have hC := fun (b o : Nat) (h : b < w2.heap.size) => Below.cell hSw (p := ⟨b, o, none⟩) h; go_simp <;> with_reducible rfl
    (try simp only [Act.put, List.setIfInBounds_toArray, List.set_cons_zero, List.set_cons_succ])
    refine PX.wpAnyY_take (i := 13) (oi := ?_) (v := ?_) ?_ (by kernel_rfl) (by kernel_rfl) (by kernel_rfl) (by kernel_rfl) (by kernel_rfl) (fun _ _ _ h => h) (Or.inl ⟨?_, ?_⟩) (by assumption) ?_
    rotate_left 2
    · simp only [List.getElem?_toArray, List.getElem?_cons_succ, List.getElem?_cons_zero]; rfl
    · rfl
    · intro w hSw; (try dsimp only at hSw); have hC := fun (b o : Nat) (h : b < w2.heap.size) => Below.cell hSw (p := ⟨b, o, none⟩) h; go_simp <;> with_reducible rfl
    (try simp only [Act.put, List.setIfInBounds_toArray, List.set_cons_zero, List.set_cons_succ])
    refine PX.wpAnyY_one (i := 12) (o := ?_) (by kernel_rfl) ?_ (fun Kq hKq => ?_)
    rotate_left
    · simp only [List.getElem?_toArray, List.getElem?_cons_succ, List.getElem?_cons_zero]; rfl
    go_simp
    (with_reducible refine (CK.out _).mono ?_)
    rintro e w3 ⟨rfl, bqw3⟩
    have Hw3 := Lib.hid (thence hHeld bqw3 (Nat.le_refl _))
    clear bqw3
    go_wp2_with fail
    refine hKq.out _ _ (Hw3.out) (fun hHeld => ?_)
    clear hKq Kq
    (try simp only [Act.put, List.setIfInBounds_toArray, List.set_cons_zero, List.set_cons_succ])
    refine PX.wpAnyY_one (i := 14) (o := ?_) (by kernel_rfl) ?_ (fun Kq hKq => ?_)
    rotate_left
    · simp only [List.getElem?_toArray, List.getElem?_cons_succ, List.getElem?_cons_zero]; rfl
    go_simp
    (with_reducible refine (CR.out _).mono ?_)
    rintro e w4 ⟨rfl, bqw4⟩
    have Hw4 := Lib.hid (thence hHeld bqw4 (Nat.le_refl _))
    clear bqw4
    go_wp2_with fail
    refine hKq.out _ _ (Hw4.out) (fun hHeld => ?_)
    clear hKq Kq
    (try simp only [Act.put, List.setIfInBounds_toArray, List.set_cons_zero, List.set_cons_succ])
    refine PX.wpAnyY_one (i := 15) (o := ?_) (by kernel_rfl) ?_ (fun Kq hKq => ?_)
    rotate_left
    · simp only [List.getElem?_toArray, List.getElem?_cons_succ, List.getElem?_cons_zero]; rfl
    go_simp
    refine hKq.out _ _ (hHeld) (fun hHeld => ?_)
    clear hKq Kq
    (try simp only [Act.put, List.setIfInBounds_toArray, List.set_cons_zero, List.set_cons_succ])
    refine PX.wpAnyY_one (i := 16) (o := ?_) (by kernel_rfl) ?_ (fun Kq hKq => ?_)
    rotate_left
    · simp only [List.getElem?_toArray, List.getElem?_cons_succ, List.getElem?_cons_zero]; rfl
    go_simp
    refine hKq.out _ _ (hHeld) (fun hHeld => ?_)
    clear hKq Kq
    (try simp only [Act.put, List.setIfInBounds_toArray, List.set_cons_zero, List.set_cons_succ])
    refine PX.wpAnyY_one (i := 17) (o := ?_) (by kernel_rfl) ?_ (fun Kq hKq => ?_)
    rotate_left
    · simp only [List.getElem?_toArray, List.getElem?_cons_succ, List.getElem?_cons_zero]; rfl
    go_simp
    refine hKq.out _ _ (hHeld) (fun hHeld => ?_)
    clear hKq Kq
    (try simp only [Act.put, List.setIfInBounds_toArray, List.set_cons_zero, List.set_cons_succ])
    refine PX.wpAnyY_done (by kernel_rfl) ?_ _
    refine NoPanic.normal ?_
    have HE := Lib.hid (thence B2.out Hw4.out (Nat.le_refl _))
    clear hHeld
    go_wp2_with fail
    go_ret
    exact ⟨rfl, HE.out⟩
  | false =>
    have HKL : Hid (([] : List Nat).length = 0) := rfl
    have CW := Lib.hid (fun w1 => I.no id ev mem chunk rows log me lost done op w1 hid hm)
    have CV : Hid (∀ w1, Calls Try.prog 15 #[.agg #[.int .u32 (id : Int), .int .u32 (ev : Int), .int .i64 mem, .int .i64 chunk, .int .i64 rows, .int .i64 log, .int .i64 me, .int .i64 lost, .int .i64 done, .bool op]] w1 fun e w' => ∃ a c, e = .returned (.tuple #[.slice a 0 c, .int .i64 8]) ∧ Rd w'.heap.size w' a 0 c [] ∧ Below w1.heap.size w1 w') := fun w1 => (refLWrite_any id ev mem chunk rows log me lost done op w1 hid).mono (by
      rintro e w' ⟨a, n, c, he, hr, hb⟩
      rw [LB.code_no hm, LB.text_no hm] at *
      have hl := hr.long
      rw [HKL.out] at hl
      subst hl
      exact ⟨a, c, he, hr, hb⟩)
    have CK : Hid (∀ w1, Calls Try.prog 14 #[.agg #[.int .u32 (id : Int), .int .u32 (ev : Int), .int .i64 mem, .int .i64 chunk, .int .i64 rows, .int .i64 log, .int .i64 me, .int .i64 lost, .int .i64 done, .bool op]] w1 fun e w' => e = .returned (.int .i64 8) ∧ Below w1.heap.size w1 w') := fun w1 => by have := I.check id ev mem chunk rows log me lost done op w1 hid; rw [LB.code_no hm] at this; exact this
    have CR : Hid (∀ w1, Calls Try.prog 16 #[.agg #[.int .u32 (id : Int), .int .u32 (ev : Int), .int .i64 mem, .int .i64 chunk, .int .i64 rows, .int .i64 log, .int .i64 me, .int .i64 lost, .int .i64 done, .bool op]] w1 fun e w' => e = .returned (.int .i64 8) ∧ Below w1.heap.size w1 w') := fun w1 => by have := refLCheck_any id ev mem chunk rows log me lost done op w1; rw [LB.code_no hm] at this; exact this
    clear hm
    go_enter Try.func4, Try.ntmps4
    go_wp2_with fail
    replace BX : Hid (Bx (w.alloc (.cells #[.int .u32 (id : Int), .int .u32 (ev : Int), .int .i64 mem, .int .i64 chunk, .int .i64 rows, .int .i64 log, .int .i64 me, .int .i64 lost, .int .i64 done, .bool op] 28)) w.heap.size [.int .u32 (id : Int), .int .u32 (ev : Int), .int .i64 mem, .int .i64 chunk, .int .i64 rows, .int .i64 log, .int .i64 me, .int .i64 lost, .int .i64 done, .bool op]) := BX
    generalize w.alloc (.cells #[.int .u32 (id : Int), .int .u32 (ev : Int), .int .i64 mem, .int .i64 chunk, .int .i64 rows, .int .i64 log, .int .i64 me, .int .i64 lost, .int .i64 done, .bool op] 28) = W0 at *
    obtain ⟨c0, c1, c2, c3, c4, c5, c6, c7, c8, c9⟩ := BX.out.ten
    have ltBX := BX.out.lt
    (with_reducible refine (CW.out _).mono ?_)
    rintro e w1 ⟨a1, k1, rfl, r1, b1⟩
    clear c0 c1 c2 c3 c4 c5 c6 c7 c8 c9 ltBX
    replace BX := Lib.hid (BX.out.here b1)
    have B1 := Lib.hid (thence B0.out b1 (Nat.le_refl _))
    have R1 := Lib.hid r1
    clear r1
    clear b1 B0
    obtain ⟨c0, c1, c2, c3, c4, c5, c6, c7, c8, c9⟩ := BX.out.ten
    have ltBX := BX.out.lt
    go_wp2_with fail
    (with_reducible refine (CV.out _).mono ?_)
    rintro e w2 ⟨a2, k2, rfl, r2, b2⟩
    clear c0 c1 c2 c3 c4 c5 c6 c7 c8 c9 ltBX
    replace BX := Lib.hid (BX.out.here b2)
    replace R1 := Lib.hid (R1.out.here b2)
    have B2 := Lib.hid (thence B1.out b2 (Nat.le_refl _))
    have R2 := Lib.hid r2
    clear r2
    clear b2 B1
    obtain ⟨c0, c1, c2, c3, c4, c5, c6, c7, c8, c9⟩ := BX.out.ten
    have ltBX := BX.out.lt
    go_wp2_with fail
    refine wp_region_noPanic ?_
    refine PX.wp_region_y (fun w' => Below w2.heap.size w2 w') [] (by kernel_rfl) (Below.refl _ _).drew (fun hHeld => ?_)
    refine PX.wpAnyY_take (i := 0) (oi := ?_) (v := ?_) ?_ (by kernel_rfl) (by kernel_rfl) (by kernel_rfl) (by kernel_rfl) (by kernel_rfl) (fun _ _ _ h => h) (Or.inl ⟨?_, ?_⟩) (by assumption) ?_
    rotate_left 2
    · simp only [List.getElem?_toArray, List.getElem?_cons_succ, List.getElem?_cons_zero]; rfl
    · rfl
    · intro w hSw; (try dsimp only at hSw); go_simp <;> with_reducible rfl
    (try simp only [Act.put, List.setIfInBounds_toArray, List.set_cons_zero, List.set_cons_succ])
    refine PX.wpAnyY_take (i := 1) (oi := ?_) (v := ?_) ?_ (by kernel_rfl) (by kernel_rfl) (by kernel_rfl) (by kernel_rfl) (by kernel_rfl) (fun _ _ _ h => h) (Or.inl ⟨?_, ?_⟩) (by assumption) ?_
    rotate_left 2
    · simp only [List.getElem?_toArray, List.getElem?_cons_succ, List.getElem?_cons_zero]; rfl
    · rfl
    · intro w hSw; (try dsimp only at hSw); have T1 := text_is w _ _ _ _ (R1.out.below hSw); go_simp <;> with_reducible rfl
    (try simp only [Act.put, List.setIfInBounds_toArray, List.set_cons_zero, List.set_cons_succ])
    refine PX.wpAnyY_one (i := 2) (o := ?_) (by kernel_rfl) ?_ (fun Kq hKq => ?_)
    rotate_left
    · simp only [List.getElem?_toArray, List.getElem?_cons_succ, List.getElem?_cons_zero]; rfl
    go_simp
    refine hKq.out _ _ (hHeld) (fun hHeld => ?_)
    clear hKq Kq
    (try simp only [Act.put, List.setIfInBounds_toArray, List.set_cons_zero, List.set_cons_succ])
    refine PX.wpAnyY_take (i := 3) (oi := ?_) (v := ?_) ?_ (by kernel_rfl) (by kernel_rfl) (by kernel_rfl) (by kernel_rfl) (by kernel_rfl) (fun _ _ _ h => h) (Or.inl ⟨?_, ?_⟩) (by assumption) ?_
    rotate_left 2
    · simp only [List.getElem?_toArray, List.getElem?_cons_succ, List.getElem?_cons_zero]; rfl
    · rfl
    · intro w hSw; (try dsimp only at hSw); have T2 := text_is w _ _ _ _ (R2.out.below hSw); go_simp <;> with_reducible rfl
    (try simp only [Act.put, List.setIfInBounds_toArray, List.set_cons_zero, List.set_cons_succ])
    refine PX.wpAnyY_one (i := 4) (o := ?_) (by kernel_rfl) ?_ (fun Kq hKq => ?_)
    rotate_left
    · simp only [List.getElem?_toArray, List.getElem?_cons_succ, List.getElem?_cons_zero]; rfl
    go_simp
    refine hKq.out _ _ (hHeld) (fun hHeld => ?_)
    clear hKq Kq
    (try simp only [Act.put, List.setIfInBounds_toArray, List.set_cons_zero, List.set_cons_succ])
    refine PX.wpAnyY_one (i := 5) (o := ?_) (by kernel_rfl) ?_ (fun Kq hKq => ?_)
    rotate_left
    · simp only [List.getElem?_toArray, List.getElem?_cons_succ, List.getElem?_cons_zero]; rfl
    go_simp
    refine hKq.out _ _ (hHeld) (fun hHeld => ?_)
    clear hKq Kq
    (try simp only [Act.put, List.setIfInBounds_toArray, List.set_cons_zero, List.set_cons_succ])
    refine PX.wpAnyY_take (i := 6) (oi := ?_) (v := ?_) ?_ (by kernel_rfl) (by kernel_rfl) (by kernel_rfl) (by kernel_rfl) (by kernel_rfl) (fun _ _ _ h => h) (Or.inl ⟨?_, ?_⟩) (by assumption) ?_
    rotate_left 2
    · simp only [List.getElem?_toArray, List.getElem?_cons_succ, List.getElem?_cons_zero]; rfl
    · rfl
    · intro w hSw; (try dsimp only at hSw); go_simp <;> with_reducible rfl
    (try simp only [Act.put, List.setIfInBounds_toArray, List.set_cons_zero, List.set_cons_succ])
    refine PX.wpAnyY_one (i := 7) (o := ?_) (by kernel_rfl) ?_ (fun Kq hKq => ?_)
    rotate_left
    · simp only [List.getElem?_toArray, List.getElem?_cons_succ, List.getElem?_cons_zero]; rfl
    go_simp
    refine hKq.out _ _ (hHeld) (fun hHeld => ?_)
    clear hKq Kq
    (try simp only [Act.put, List.setIfInBounds_toArray, List.set_cons_zero, List.set_cons_succ])
    refine PX.wpAnyY_one (i := 8) (o := ?_) (by kernel_rfl) ?_ (fun Kq hKq => ?_)
    rotate_left
    · simp only [List.getElem?_toArray, List.getElem?_cons_succ, List.getElem?_cons_zero]; rfl
    go_simp
    refine hKq.out _ _ (hHeld) (fun hHeld => ?_)
    clear hKq Kq
    (try simp only [Act.put, List.setIfInBounds_toArray, List.set_cons_zero, List.set_cons_succ])
    refine PX.wpAnyY_one (i := 9) (o := ?_) (by kernel_rfl) ?_ (fun Kq hKq => ?_)
    rotate_left
    · simp only [List.getElem?_toArray, List.getElem?_cons_succ, List.getElem?_cons_zero]; rfl
    go_simp
    refine hKq.out _ _ (hHeld) (fun hHeld => ?_)
    clear hKq Kq
    (try simp only [Act.put, List.setIfInBounds_toArray, List.set_cons_zero, List.set_cons_succ])
    refine PX.wpAnyY_one (i := 10) (o := ?_) (by kernel_rfl) ?_ (fun Kq hKq => ?_)
    rotate_left
    · simp only [List.getElem?_toArray, List.getElem?_cons_succ, List.getElem?_cons_zero]; rfl
    go_simp
    refine hKq.out _ _ (hHeld) (fun hHeld => ?_)
    clear hKq Kq
    (try simp only [Act.put, List.setIfInBounds_toArray, List.set_cons_zero, List.set_cons_succ])
    refine PX.wpAnyY_take (i := 11) (oi := ?_) (v := ?_) ?_ (by kernel_rfl) (by kernel_rfl) (by kernel_rfl) (by kernel_rfl) (by kernel_rfl) (fun _ _ _ h => h) (Or.inl ⟨?_, ?_⟩) (by assumption) ?_
    rotate_left 2
    · simp only [List.getElem?_toArray, List.getElem?_cons_succ, List.getElem?_cons_zero]; rfl
    · rfl
    · intro w hSw; (try dsimp only at hSw); have hC := fun (b o : Nat) (h : b < w2.heap.size) => Below.cell hSw (p := ⟨b, o, none⟩) h; go_simp <;> with_reducible rfl
    (try simp only [Act.put, List.setIfInBounds_toArray, List.set_cons_zero, List.set_cons_succ])
    refine PX.wpAnyY_take (i := 13) (oi := ?_) (v := ?_) ?_ (by kernel_rfl) (by kernel_rfl) (by kernel_rfl) (by kernel_rfl) (by kernel_rfl) (fun _ _ _ h => h) (Or.inl ⟨?_, ?_⟩) (by assumption) ?_
    rotate_left 2
    · simp only [List.getElem?_toArray, List.getElem?_cons_succ, List.getElem?_cons_zero]; rfl
    · rfl
    · intro w hSw; (try dsimp only at hSw); have hC := fun (b o : Nat) (h : b < w2.heap.size) => Below.cell hSw (p := ⟨b, o, none⟩) h; go_simp <;> with_reducible rfl
    (try simp only [Act.put, List.setIfInBounds_toArray, List.set_cons_zero, List.set_cons_succ])
    refine PX.wpAnyY_one (i := 12) (o := ?_) (by kernel_rfl) ?_ (fun Kq hKq => ?_)
    rotate_left
    · simp only [List.getElem?_toArray, List.getElem?_cons_succ, List.getElem?_cons_zero]; rfl
    go_simp
    (with_reducible refine (CK.out _).mono ?_)
    rintro e w3 ⟨rfl, bqw3⟩
    have Hw3 := Lib.hid (thence hHeld bqw3 (Nat.le_refl _))
    clear bqw3
    go_wp2_with fail
    refine hKq.out _ _ (Hw3.out) (fun hHeld => ?_)
    clear hKq Kq
    (try simp only [Act.put, List.setIfInBounds_toArray, List.set_cons_zero, List.set_cons_succ])
    refine PX.wpAnyY_one (i := 14) (o := ?_) (by kernel_rfl) ?_ (fun Kq hKq => ?_)
    rotate_left
    · simp only [List.getElem?_toArray, List.getElem?_cons_succ, List.getElem?_cons_zero]; rfl
    go_simp
    (with_reducible refine (CR.out _).mono ?_)
    rintro e w4 ⟨rfl, bqw4⟩
    have Hw4 := Lib.hid (thence hHeld bqw4 (Nat.le_refl _))
    clear bqw4
    go_wp2_with fail
    refine hKq.out _ _ (Hw4.out) (fun hHeld => ?_)
    clear hKq Kq
    (try simp only [Act.put, List.setIfInBounds_toArray, List.set_cons_zero, List.set_cons_succ])
    refine PX.wpAnyY_one (i := 15) (o := ?_) (by kernel_rfl) ?_ (fun Kq hKq => ?_)
    rotate_left
    · simp only [List.getElem?_toArray, List.getElem?_cons_succ, List.getElem?_cons_zero]; rfl
    go_simp
    refine hKq.out _ _ (hHeld) (fun hHeld => ?_)
    clear hKq Kq
    (try simp only [Act.put, List.setIfInBounds_toArray, List.set_cons_zero, List.set_cons_succ])
    refine PX.wpAnyY_one (i := 16) (o := ?_) (by kernel_rfl) ?_ (fun Kq hKq => ?_)
    rotate_left
    · simp only [List.getElem?_toArray, List.getElem?_cons_succ, List.getElem?_cons_zero]; rfl
    go_simp
    refine hKq.out _ _ (hHeld) (fun hHeld => ?_)
    clear hKq Kq
    (try simp only [Act.put, List.setIfInBounds_toArray, List.set_cons_zero, List.set_cons_succ])
    refine PX.wpAnyY_one (i := 17) (o := ?_) (by kernel_rfl) ?_ (fun Kq hKq => ?_)
    rotate_left
    · simp only [List.getElem?_toArray, List.getElem?_cons_succ, List.getElem?_cons_zero]; rfl
    go_simp
    refine hKq.out _ _ (hHeld) (fun hHeld => ?_)
    clear hKq Kq
    (try simp only [Act.put, List.setIfInBounds_toArray, List.set_cons_zero, List.set_cons_succ])
    refine PX.wpAnyY_done (by kernel_rfl) ?_ _
    refine NoPanic.normal ?_
    have HE := Lib.hid (thence B2.out Hw4.out (Nat.le_refl _))
    clear hHeld
    go_wp2_with fail
    go_ret
    exact ⟨rfl, HE.out⟩

set_option maxHeartbeats 2000000 in
theorem labelReads_walk (I : LabelIs) (a : Option Addr) (len cap : Nat) (l : List Nat) (w : World) (hr : Rd w.heap.size w a len cap l) :
    Calls Try.prog 5 #[.slice a len cap] w fun e w' => e = .returned (.bool true) ∧ Below w.heap.size w w' := by
  obtain rfl := hr.long
  have hsm := hr.small
  have hft := hr.fits
  unfold maxLen at hsm
  by_cases hbig : 1000 < l.length
  · have hb1 : (1000 : Int) < l.length := by omega
    generalize l.length = n at *
    clear hr I
    go_enter Try.func5, Try.ntmps5
    go_wp2
    go_ret
    exact ⟨rfl, Below.refl _ _⟩
  · have hb1 : ¬ (1000 : Int) < l.length := by omega
    obtain ⟨⟨i, v, m, c, r, g, me, lo, dn, op⟩, cd, hX⟩ : ∃ X cd, LB.rd l = (X, cd) := ⟨_, _, rfl⟩
    have CP : Hid (∀ (a : Option Addr) (n k : Nat) (w1 : World), Rd w1.heap.size w1 a n k l → Calls Try.prog 12 #[.slice a n k] w1 fun e w' => e = .returned (.tuple #[.agg #[.int .u32 (i : Int), .int .u32 (v : Int), .int .i64 m, .int .i64 c, .int .i64 r, .int .i64 g, .int .i64 me, .int .i64 lo, .int .i64 dn, .bool op], .int .i64 (cd : Int)]) ∧ Below w1.heap.size w1 w') := fun a n k w1 hr => by have := I.read a n k l w1 hr; rw [hX] at this; exact this
    have CR : Hid (∀ (a : Option Addr) (n k : Nat) (w1 : World), Rd w1.heap.size w1 a n k l → Calls Try.prog 17 #[.slice a n k] w1 fun e w' => e = .returned (.tuple #[.agg #[.int .u32 (i : Int), .int .u32 (v : Int), .int .i64 m, .int .i64 c, .int .i64 r, .int .i64 g, .int .i64 me, .int .i64 lo, .int .i64 dn, .bool op], .int .i64 (cd : Int)]) ∧ Below w1.heap.size w1 w') := fun a n k w1 hr => by have := refLRead_any a n k l w1 hr; rw [hX] at this; exact this
    obtain ⟨v2, w2, r2, o2, g2, q2⟩ := append_bytes w w.heap.size _ [] (own_nil _ _) w.heap.size a _ cap l hr (by simp; omega) (Nat.le_refl _)
    rw [List.nil_append] at o2
    obtain ⟨a2, k2, rfl, rd2⟩ := o2.rd hr.byt
    have b2 : Below w.heap.size w w2 := (Below.refl _ _).grown g2 (Nat.le_refl _) (by simp [Value.ownBlock])
    have R2 := Lib.hid rd2
    have R1 := Lib.hid (hr.here b2)
    have B2 := Lib.hid b2
    have RR := Lib.hid r2
    clear hr hX r2 o2 g2 q2 rd2 b2
    generalize l.length = n at *
    go_enter Try.func5, Try.ntmps5
    go_wp2_with (at_builtin; refine wpList_append_run rfl _ _ _ _ rfl RR.out ?_; clear RR)
    (with_reducible refine (CP.out _ _ _ _ R2.out).mono ?_)
    rintro e w3 ⟨rfl, b3⟩
    replace R1 := Lib.hid (R1.out.here b3)
    replace R2 := Lib.hid (R2.out.here b3)
    have ha3 : Below w3.heap.size w3 (w3.alloc (.cells #[.int .u32 (i : Int), .int .u32 (v : Int), .int .i64 m, .int .i64 c, .int .i64 r, .int .i64 g, .int .i64 me, .int .i64 lo, .int .i64 dn, .bool op] 28)) := (Below.refl _ _).alloc (Nat.le_refl _) _
    replace R1 := Lib.hid (R1.out.here ha3)
    replace R2 := Lib.hid (R2.out.here ha3)
    have BL : Hid (Bx (w3.alloc (.cells #[.int .u32 (i : Int), .int .u32 (v : Int), .int .i64 m, .int .i64 c, .int .i64 r, .int .i64 g, .int .i64 me, .int .i64 lo, .int .i64 dn, .bool op] 28)) w3.heap.size [.int .u32 (i : Int), .int .u32 (v : Int), .int .i64 m, .int .i64 c, .int .i64 r, .int .i64 g, .int .i64 me, .int .i64 lo, .int .i64 dn, .bool op]) := Bx.new w3 [.int .u32 (i : Int), .int .u32 (v : Int), .int .i64 m, .int .i64 c, .int .i64 r, .int .i64 g, .int .i64 me, .int .i64 lo, .int .i64 dn, .bool op] 28
    have B3 := Lib.hid (thence B2.out (thence b3 ha3 (Nat.le_refl _)) (Nat.le_refl _))
    clear ha3
    clear b3 B2
    obtain ⟨c0, c1, c2, c3, c4, c5, c6, c7, c8, c9⟩ := BL.out.ten
    have ltBL := BL.out.lt
    go_wp2_with fail
    (with_reducible refine (CR.out _ _ _ _ R1.out).mono ?_)
    rintro e w4 ⟨rfl, b4⟩
    clear c0 c1 c2 c3 c4 c5 c6 c7 c8 c9 ltBL
    replace R1 := Lib.hid (R1.out.here b4)
    replace R2 := Lib.hid (R2.out.here b4)
    replace BL := Lib.hid (BL.out.here b4)
    have ha4 : Below w4.heap.size w4 (w4.alloc (.cells #[.int .u32 (i : Int), .int .u32 (v : Int), .int .i64 m, .int .i64 c, .int .i64 r, .int .i64 g, .int .i64 me, .int .i64 lo, .int .i64 dn, .bool op] 28)) := (Below.refl _ _).alloc (Nat.le_refl _) _
    replace R1 := Lib.hid (R1.out.here ha4)
    replace R2 := Lib.hid (R2.out.here ha4)
    replace BL := Lib.hid (BL.out.here ha4)
    have BM : Hid (Bx (w4.alloc (.cells #[.int .u32 (i : Int), .int .u32 (v : Int), .int .i64 m, .int .i64 c, .int .i64 r, .int .i64 g, .int .i64 me, .int .i64 lo, .int .i64 dn, .bool op] 28)) w4.heap.size [.int .u32 (i : Int), .int .u32 (v : Int), .int .i64 m, .int .i64 c, .int .i64 r, .int .i64 g, .int .i64 me, .int .i64 lo, .int .i64 dn, .bool op]) := Bx.new w4 [.int .u32 (i : Int), .int .u32 (v : Int), .int .i64 m, .int .i64 c, .int .i64 r, .int .i64 g, .int .i64 me, .int .i64 lo, .int .i64 dn, .bool op] 28
    have B4 := Lib.hid (thence B3.out (thence b4 ha4 (Nat.le_refl _)) (Nat.le_refl _))
    clear ha4
    clear b4 B3
    obtain ⟨c0, c1, c2, c3, c4, c5, c6, c7, c8, c9⟩ := BL.out.ten
    have ltBL := BL.out.lt
    obtain ⟨d0, d1, d2, d3, d4, d5, d6, d7, d8, d9⟩ := BM.out.ten
    have ltBM := BM.out.lt
    have T1 := text_is (w4.alloc (.cells #[.int .u32 (i : Int), .int .u32 (v : Int), .int .i64 m, .int .i64 c, .int .i64 r, .int .i64 g, .int .i64 me, .int .i64 lo, .int .i64 dn, .bool op] 28)) _ _ _ _ R1.out
    have T2 := text_is (w4.alloc (.cells #[.int .u32 (i : Int), .int .u32 (v : Int), .int .i64 m, .int .i64 c, .int .i64 r, .int .i64 g, .int .i64 me, .int .i64 lo, .int .i64 dn, .bool op] 28)) _ _ _ _ R2.out
    go_wp2_with fail
    go_ret
    exact ⟨rfl, B4.out⟩
end Go.Proofs.Ytleaphlignfkjaa.PW
