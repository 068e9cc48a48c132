/-
  Layer 9's laws, given what the program's calls answer.
-/
import Derived.Test.YtleaphlignfkjaaLabelRead
namespace Go.Proofs.Ytleaphlignfkjaa.PW
open Go.RowKit
open SK (Cfg)
open LB (Lab)
set_option linter.unusedVariables false
set_option linter.unusedSimpArgs false
set_option maxRecDepth 100000

/-- What the program's calls answer. -/
structure LabelIs : Prop where
  check : ∀ (id ev : Nat) (mem chunk rows log me lost done : Int) (op : Bool) (w : World), id < 4294967296 → Calls Try.prog 14 #[.agg #[.int .u32 (id : Int), .int .u32 (ev : Int), .int .i64 mem, .int .i64 chunk, .int .i64 rows, .int .i64 log, .int .i64 me, .int .i64 lost, .int .i64 done, .bool op]] w fun e w' => e = .returned (.int .i64 ((Lab.code ⟨id, ev, mem, chunk, rows, log, me, lost, done, op⟩ : Nat) : Int)) ∧ Below w.heap.size w w'
  yes : ∀ (id ev : Nat) (mem chunk rows log me lost done : Int) (op : Bool) (w : World), id < 4294967296 → Lab.mayP ⟨id, ev, mem, chunk, rows, log, me, lost, done, op⟩ → Calls Try.prog 10 #[.agg #[.int .u32 (id : Int), .int .u32 (ev : Int), .int .i64 mem, .int .i64 chunk, .int .i64 rows, .int .i64 log, .int .i64 me, .int .i64 lost, .int .i64 done, .bool op]] w fun e w' => ∃ a c, e = .returned (.tuple #[.slice a 128 c, .int .i64 0]) ∧ Rd w'.heap.size w' a 128 c (Lab.block ⟨id, ev, mem, chunk, rows, log, me, lost, done, op⟩) ∧ Mine w.heap.size w' a ∧ Below w.heap.size w w'
  no : ∀ (id ev : Nat) (mem chunk rows log me lost done : Int) (op : Bool) (w : World), id < 4294967296 → Lab.may ⟨id, ev, mem, chunk, rows, log, me, lost, done, op⟩ = false → Calls Try.prog 10 #[.agg #[.int .u32 (id : Int), .int .u32 (ev : Int), .int .i64 mem, .int .i64 chunk, .int .i64 rows, .int .i64 log, .int .i64 me, .int .i64 lost, .int .i64 done, .bool op]] w fun e w' => ∃ a c, e = .returned (.tuple #[.slice a 0 c, .int .i64 8]) ∧ Rd w'.heap.size w' a 0 c [] ∧ Below w.heap.size w w'
  read : ∀ (a : Option Addr) (len cap : Nat) (l : List Nat) (w : World), Rd w.heap.size w a len cap l → Calls Try.prog 12 #[.slice a len cap] w fun e w' => e = .returned (.tuple #[labV (LB.rd l).1, .int .i64 (((LB.rd l).2 : Nat) : Int)]) ∧ Below w.heap.size w w'

def oneL : Lab := ⟨7, 2, 3, 1, 1, 12, 1, -1, 0, true⟩
theorem oneL_may : oneL.mayP := by decide
theorem one9_any (w : World) : Calls Try.prog 11 #[] w fun e w' => e = .returned (.agg #[.int .u32 7, .int .u32 2, .int .i64 3, .int .i64 1, .int .i64 1, .int .i64 12, .int .i64 1, .int .i64 (-1), .int .i64 0, .bool true]) ∧ Below w.heap.size w w' := by
  go_enter Try.func11, Try.ntmps11
  go_wp2
  exact bodyPost_ret (v := .agg #[.int .u32 7, .int .u32 2, .int .i64 3, .int .i64 1, .int .i64 1, .int .i64 12, .int .i64 1, .int .i64 (-1), .int .i64 0, .bool true]) (by simp [results, Try.results11, go_sem]) rfl ⟨rfl, (Below.refl _ _).alloc (Nat.le_refl _) _⟩

/-- Of the chapter's label. -/
theorem one_of (I : LabelIs) : ∃ K, Hid (K = oneL.block) ∧
    Hid (∀ w1 : World, Calls Try.prog 10 #[.agg #[.int .u32 7, .int .u32 2, .int .i64 3, .int .i64 1, .int .i64 1, .int .i64 12, .int .i64 1, .int .i64 (-1), .int .i64 0, .bool true]] w1 fun e w' => ∃ a c, e = .returned (.tuple #[.slice a 128 c, .int .i64 0]) ∧ Rd w'.heap.size w' a 128 c K ∧ Below w1.heap.size w1 w') ∧
    Hid (∀ (a : Option Addr) (c : Nat) (w1 : World), Rd w1.heap.size w1 a 128 c K → Calls Try.prog 12 #[.slice a 128 c] w1 fun e w' => e = .returned (.tuple #[.agg #[.int .u32 7, .int .u32 2, .int .i64 3, .int .i64 1, .int .i64 1, .int .i64 12, .int .i64 1, .int .i64 (-1), .int .i64 0, .bool true], .int .i64 0]) ∧ Below w1.heap.size w1 w') ∧
    Hid (∀ w1 : World, Calls Try.prog 11 #[] w1 fun e w' => e = .returned (.agg #[.int .u32 7, .int .u32 2, .int .i64 3, .int .i64 1, .int .i64 1, .int .i64 12, .int .i64 1, .int .i64 (-1), .int .i64 0, .bool true]) ∧ Below w1.heap.size w1 w') :=
  ⟨oneL.block, rfl, fun w1 => (I.yes 7 2 3 1 1 12 1 (-1) 0 true w1 (by decide) oneL_may).mono (by rintro e w' ⟨a, c, he, hr, -, hb⟩; exact ⟨a, c, he, hr, hb⟩),
   fun a c w1 hr => by have := I.read a 128 c oneL.block w1 hr; rw [LB.rd_block oneL_may (by decide)] at this; exact this, one9_any⟩

set_option maxHeartbeats 1000000 in
theorem alive9_any (I : LabelIs) (w : World) : Calls Try.prog 13 #[] w fun e w' => e = .returned (.bool true) ∧ Below w.heap.size w w' := by
  obtain ⟨K, HK, CW, CR, CO⟩ := one_of I
  go_enter Try.func13, Try.ntmps13
  have B0 : Hid (Below w.heap.size w w) := Below.refl _ _
  go_wp2_with fail
  (with_reducible refine (CO.out _).mono ?_)
  rintro e w1 ⟨rfl, b1⟩
  have B1 := Lib.hid (thence B0.out b1 (Nat.le_refl _))
  clear b1 B0
  go_wp2_with fail
  (with_reducible refine (CW.out _).mono ?_)
  rintro e w2 ⟨a1, k1, rfl, r1, b2⟩
  have B2 := Lib.hid (thence B1.out b2 (Nat.le_refl _))
  have R1 := Lib.hid r1
  clear r1
  clear b2 B1
  go_wp2_with fail
  (with_reducible refine (CR.out _ _ _ R1.out).mono ?_)
  rintro e w3 ⟨rfl, b3⟩
  replace R1 := Lib.hid (R1.out.here b3)
  have ha3 : Below w3.heap.size w3 (w3.alloc (.cells #[.int .u32 7, .int .u32 2, .int .i64 3, .int .i64 1, .int .i64 1, .int .i64 12, .int .i64 1, .int .i64 (-1), .int .i64 0, .bool true] 28)) := (Below.refl _ _).alloc (Nat.le_refl _) _
  replace R1 := Lib.hid (R1.out.here ha3)
  have BL : Hid (Bx (w3.alloc (.cells #[.int .u32 7, .int .u32 2, .int .i64 3, .int .i64 1, .int .i64 1, .int .i64 12, .int .i64 1, .int .i64 (-1), .int .i64 0, .bool true] 28)) w3.heap.size [.int .u32 7, .int .u32 2, .int .i64 3, .int .i64 1, .int .i64 1, .int .i64 12, .int .i64 1, .int .i64 (-1), .int .i64 0, .bool true]) := Bx.new w3 [.int .u32 7, .int .u32 2, .int .i64 3, .int .i64 1, .int .i64 1, .int .i64 12, .int .i64 1, .int .i64 (-1), .int .i64 0, .bool true] 28
  have B3 := Lib.hid (thence B2.out (thence b3 ha3 (Nat.le_refl _)) (Nat.le_refl _))
  clear ha3
  clear b3 B2
  obtain ⟨c0, c1, c2, c3, c4, c5, c6, c7, c8, c9⟩ := BL.out.ten
  have ltBL := BL.out.lt
  go_wp2_with fail
  have WX : Hid (w.heap.size = w.heap.size) := rfl
  generalize hW : w3.alloc (.cells #[.int .u32 7, .int .u32 2, .int .i64 3, .int .i64 1, .int .i64 1, .int .i64 12, .int .i64 1, .int .i64 (-1), .int .i64 0, .bool true] 28) = W3 at *
  clear hW
  refine wp_region_noPanic ?_
  refine PX.wp_region_y (fun w' => Below W3.heap.size W3 w') [] (by kernel_rfl) (Below.refl _ _).drew (fun hHeld => ?_)
  refine PX.wpAnyY_one (i := 0) (o := ?_) (by kernel_rfl) ?_ (fun Kq hKq => ?_)
  rotate_left
  · simp only [List.getElem?_toArray, List.getElem?_cons_succ, List.getElem?_cons_zero]; rfl
  go_simp
  refine hKq.out _ _ (hHeld) (fun hHeld => ?_)
  clear hKq Kq
  (try simp only [Act.put, List.setIfInBounds_toArray, List.set_cons_zero, List.set_cons_succ])
  refine PX.wpAnyY_one (i := 1) (o := ?_) (by kernel_rfl) ?_ (fun Kq hKq => ?_)
  rotate_left
  · simp only [List.getElem?_toArray, List.getElem?_cons_succ, List.getElem?_cons_zero]; rfl
  go_simp
  refine hKq.out _ _ (hHeld) (fun hHeld => ?_)
  clear hKq Kq
  (try simp only [Act.put, List.setIfInBounds_toArray, List.set_cons_zero, List.set_cons_succ])
  refine PX.wpAnyY_one (i := 2) (o := ?_) (by kernel_rfl) ?_ (fun Kq hKq => ?_)
  rotate_left
  · simp only [List.getElem?_toArray, List.getElem?_cons_succ, List.getElem?_cons_zero]; rfl
  go_simp
  refine hKq.out _ _ (hHeld) (fun hHeld => ?_)
  clear hKq Kq
  (try simp only [Act.put, List.setIfInBounds_toArray, List.set_cons_zero, List.set_cons_succ])
  refine PX.wpAnyY_one (i := 3) (o := ?_) (by kernel_rfl) ?_ (fun Kq hKq => ?_)
  rotate_left
  · simp only [List.getElem?_toArray, List.getElem?_cons_succ, List.getElem?_cons_zero]; rfl
  go_simp
  refine hKq.out _ _ (hHeld) (fun hHeld => ?_)
  clear hKq Kq
  (try simp only [Act.put, List.setIfInBounds_toArray, List.set_cons_zero, List.set_cons_succ])
  refine PX.wpAnyY_one (i := 4) (o := ?_) (by kernel_rfl) ?_ (fun Kq hKq => ?_)
  rotate_left
  · simp only [List.getElem?_toArray, List.getElem?_cons_succ, List.getElem?_cons_zero]; rfl
  go_simp
  refine hKq.out _ _ (hHeld) (fun hHeld => ?_)
  clear hKq Kq
  (try simp only [Act.put, List.setIfInBounds_toArray, List.set_cons_zero, List.set_cons_succ])
  refine PX.wpAnyY_one (i := 5) (o := ?_) (by kernel_rfl) ?_ (fun Kq hKq => ?_)
  rotate_left
  · simp only [List.getElem?_toArray, List.getElem?_cons_succ, List.getElem?_cons_zero]; rfl
  go_simp
  refine hKq.out _ _ (hHeld) (fun hHeld => ?_)
  clear hKq Kq
  (try simp only [Act.put, List.setIfInBounds_toArray, List.set_cons_zero, List.set_cons_succ])
  refine PX.wpAnyY_one (i := 6) (o := ?_) (by kernel_rfl) ?_ (fun Kq hKq => ?_)
  rotate_left
  · simp only [List.getElem?_toArray, List.getElem?_cons_succ, List.getElem?_cons_zero]; rfl
  go_simp
  refine hKq.out _ _ (hHeld) (fun hHeld => ?_)
  clear hKq Kq
  (try simp only [Act.put, List.setIfInBounds_toArray, List.set_cons_zero, List.set_cons_succ])
  refine PX.wpAnyY_one (i := 7) (o := ?_) (by kernel_rfl) ?_ (fun Kq hKq => ?_)
  rotate_left
  · simp only [List.getElem?_toArray, List.getElem?_cons_succ, List.getElem?_cons_zero]; rfl
  go_simp
  refine hKq.out _ _ (hHeld) (fun hHeld => ?_)
  clear hKq Kq
  (try simp only [Act.put, List.setIfInBounds_toArray, List.set_cons_zero, List.set_cons_succ])
  refine PX.wpAnyY_one (i := 8) (o := ?_) (by kernel_rfl) ?_ (fun Kq hKq => ?_)
  rotate_left
  · simp only [List.getElem?_toArray, List.getElem?_cons_succ, List.getElem?_cons_zero]; rfl
  go_simp
  refine hKq.out _ _ (hHeld) (fun hHeld => ?_)
  clear hKq Kq
  (try simp only [Act.put, List.setIfInBounds_toArray, List.set_cons_zero, List.set_cons_succ])
  refine PX.wpAnyY_one (i := 9) (o := ?_) (by kernel_rfl) ?_ (fun Kq hKq => ?_)
  rotate_left
  · simp only [List.getElem?_toArray, List.getElem?_cons_succ, List.getElem?_cons_zero]; rfl
  go_simp
  refine hKq.out _ _ (hHeld) (fun hHeld => ?_)
  clear hKq Kq
  (try simp only [Act.put, List.setIfInBounds_toArray, List.set_cons_zero, List.set_cons_succ])
  refine PX.wpAnyY_one (i := 10) (o := ?_) (by kernel_rfl) ?_ (fun Kq hKq => ?_)
  rotate_left
  · simp only [List.getElem?_toArray, List.getElem?_cons_succ, List.getElem?_cons_zero]; rfl
  go_simp
  refine hKq.out _ _ (hHeld) (fun hHeld => ?_)
  clear hKq Kq
  (try simp only [Act.put, List.setIfInBounds_toArray, List.set_cons_zero, List.set_cons_succ])
  refine PX.wpAnyY_one (i := 11) (o := ?_) (by kernel_rfl) ?_ (fun Kq hKq => ?_)
  rotate_left
  · simp only [List.getElem?_toArray, List.getElem?_cons_succ, List.getElem?_cons_zero]; rfl
  go_simp
  refine hKq.out _ _ (hHeld) (fun hHeld => ?_)
  clear hKq Kq
  (try simp only [Act.put, List.setIfInBounds_toArray, List.set_cons_zero, List.set_cons_succ])
  refine PX.wpAnyY_take (i := 12) (oi := ?_) (v := ?_) ?_ (by kernel_rfl) (by kernel_rfl) (by kernel_rfl) (by kernel_rfl) (by kernel_rfl) (fun _ _ _ h => h) (Or.inl ⟨?_, ?_⟩) (by assumption) ?_
  rotate_left 2
  · simp only [List.getElem?_toArray, List.getElem?_cons_succ, List.getElem?_cons_zero]; rfl
  · rfl
  · intro w hSw; (try dsimp only at hSw); have hC := fun (b o : Nat) (h : b < W3.heap.size) => Below.cell hSw (p := ⟨b, o, none⟩) h; go_simp <;> with_reducible rfl
  (try simp only [Act.put, List.setIfInBounds_toArray, List.set_cons_zero, List.set_cons_succ])
  refine PX.wpAnyY_one (i := 13) (o := ?_) (by kernel_rfl) ?_ (fun Kq hKq => ?_)
  rotate_left
  · simp only [List.getElem?_toArray, List.getElem?_cons_succ, List.getElem?_cons_zero]; rfl
  go_simp
  (with_reducible refine (CO.out _).mono ?_)
  rintro e w4 ⟨rfl, bqw4⟩
  have Hw4 := Lib.hid (thence hHeld bqw4 (Nat.le_refl _))
  clear bqw4
  go_wp2_with fail
  refine hKq.out _ _ (Hw4.out) (fun hHeld => ?_)
  clear hKq Kq
  (try simp only [Act.put, List.setIfInBounds_toArray, List.set_cons_zero, List.set_cons_succ])
  refine PX.wpAnyY_one (i := 14) (o := ?_) (by kernel_rfl) ?_ (fun Kq hKq => ?_)
  rotate_left
  · simp only [List.getElem?_toArray, List.getElem?_cons_succ, List.getElem?_cons_zero]; rfl
  go_simp
  refine hKq.out _ _ (hHeld) (fun hHeld => ?_)
  clear hKq Kq
  (try simp only [Act.put, List.setIfInBounds_toArray, List.set_cons_zero, List.set_cons_succ])
  refine PX.wpAnyY_one (i := 15) (o := ?_) (by kernel_rfl) ?_ (fun Kq hKq => ?_)
  rotate_left
  · simp only [List.getElem?_toArray, List.getElem?_cons_succ, List.getElem?_cons_zero]; rfl
  go_simp
  refine hKq.out _ _ (hHeld) (fun hHeld => ?_)
  clear hKq Kq
  (try simp only [Act.put, List.setIfInBounds_toArray, List.set_cons_zero, List.set_cons_succ])
  refine PX.wpAnyY_one (i := 16) (o := ?_) (by kernel_rfl) ?_ (fun Kq hKq => ?_)
  rotate_left
  · simp only [List.getElem?_toArray, List.getElem?_cons_succ, List.getElem?_cons_zero]; rfl
  go_simp
  refine hKq.out _ _ (hHeld) (fun hHeld => ?_)
  clear hKq Kq
  (try simp only [Act.put, List.setIfInBounds_toArray, List.set_cons_zero, List.set_cons_succ])
  refine PX.wpAnyY_done (by kernel_rfl) ?_ _
  refine NoPanic.normal ?_
  have HE := Lib.hid (thence B3.out Hw4.out (Nat.le_refl _))
  clear hHeld
  go_wp2_with fail
  go_ret
  exact ⟨rfl, HE.out⟩
end Go.Proofs.Ytleaphlignfkjaa.PW
