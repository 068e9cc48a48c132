/-
  Layer 10's laws, given what the program's calls answer.
-/
import Derived.Test.YtjdcnajppjamgaaSuperRead
namespace Go.Proofs.Ytjdcnajppjamgaa.PW
open Go.RowKit
open SB (Sup)
set_option linter.unusedVariables false
set_option linter.unusedSimpArgs false
set_option maxRecDepth 100000

/-- What the program's calls answer. -/
structure SuperIs : Prop where
  check : ∀ (id age seq : Nat) (tail : Int) (w : World), id < 4294967296 → Calls Try.prog 13 #[.agg #[.int .u32 (id : Int), .int .u32 (age : Int), .int .u32 (seq : Int), .int .i64 tail]] w fun e w' => e = .returned (.int .i64 ((Sup.code ⟨id, age, seq, tail⟩ : Nat) : Int)) ∧ Below w.heap.size w w'
  yes : ∀ (id age seq : Nat) (tail : Int) (w : World), id < 4294967296 → Sup.mayP ⟨id, age, seq, tail⟩ → Calls Try.prog 9 #[.agg #[.int .u32 (id : Int), .int .u32 (age : Int), .int .u32 (seq : Int), .int .i64 tail]] w fun e w' => ∃ a c, e = .returned (.tuple #[.slice a 128 c, .int .i64 0]) ∧ Rd w'.heap.size w' a 128 c (Sup.block ⟨id, age, seq, tail⟩) ∧ Mine w.heap.size w' a ∧ Below w.heap.size w w'
  no : ∀ (id age seq : Nat) (tail : Int) (w : World), id < 4294967296 → Sup.may ⟨id, age, seq, tail⟩ = false → Calls Try.prog 9 #[.agg #[.int .u32 (id : Int), .int .u32 (age : Int), .int .u32 (seq : Int), .int .i64 tail]] w fun e w' => ∃ a c, e = .returned (.tuple #[.slice a 0 c, .int .i64 8]) ∧ Rd w'.heap.size w' a 0 c [] ∧ Below w.heap.size w w'
  read : ∀ (a : Option Addr) (len cap : Nat) (l : List Nat) (w : World), Rd w.heap.size w a len cap l → Calls Try.prog 11 #[.slice a len cap] w fun e w' => e = .returned (.tuple #[supV (SB.rd l).1, .int .i64 (((SB.rd l).2 : Nat) : Int)]) ∧ Below w.heap.size w w'

def fiveS : Sup := ⟨7, 1, 300, 5⟩
theorem fiveS_may : fiveS.mayP := by decide
theorem five10_any (w : World) : Calls Try.prog 10 #[] w fun e w' => e = .returned (.agg #[.int .u32 7, .int .u32 1, .int .u32 300, .int .i64 5]) ∧ Below w.heap.size w w' := by
  go_enter Try.func10, Try.ntmps10
  go_wp2
  exact bodyPost_ret (v := .agg #[.int .u32 7, .int .u32 1, .int .u32 300, .int .i64 5]) (by simp [results, Try.results10, go_sem]) rfl ⟨rfl, (Below.refl _ _).alloc (Nat.le_refl _) _⟩

/-- Of the chapter's super. -/
theorem five_of (I : SuperIs) : ∃ K, Hid (K.length = 128) ∧ Hid ((str (K.take 14)).toList = [83, 7, 0, 0, 0, 1, 0, 0, 0, 44, 1, 0, 0, 5]) ∧
    Hid (∀ w1 : World, Calls Try.prog 9 #[.agg #[.int .u32 7, .int .u32 1, .int .u32 300, .int .i64 5]] w1 fun e w' => ∃ a c, e = .returned (.tuple #[.slice a 128 c, .int .i64 0]) ∧ Rd w'.heap.size w' a 128 c K ∧ Below w1.heap.size w1 w') ∧
    Hid (∀ (a : Option Addr) (c : Nat) (w1 : World), Rd w1.heap.size w1 a 128 c K → Calls Try.prog 11 #[.slice a 128 c] w1 fun e w' => e = .returned (.tuple #[.agg #[.int .u32 7, .int .u32 1, .int .u32 300, .int .i64 5], .int .i64 0]) ∧ Below w1.heap.size w1 w') ∧
    Hid (∀ w1 : World, Calls Try.prog 10 #[] w1 fun e w' => e = .returned (.agg #[.int .u32 7, .int .u32 1, .int .u32 300, .int .i64 5]) ∧ Below w1.heap.size w1 w') :=
  ⟨fiveS.block, SB.block_length _, by
    show _ = _
    rw [show fiveS.block.take 14 = fiveS.head from by unfold Sup.block; rw [SL.sld_first (by decide) 14 (by decide)]; rfl]
    rw [show str fiveS.head = ByteArray.mk #[83, 7, 0, 0, 0, 1, 0, 0, 0, 44, 1, 0, 0, 5] from by decide +kernel]
    rw [ByteArray.toList_eq],
   fun w1 => (I.yes 7 1 300 5 w1 (by decide) fiveS_may).mono (by rintro e w' ⟨a, c, he, hr, -, hb⟩; exact ⟨a, c, he, hr, hb⟩),
   fun a c w1 hr => by have := I.read a 128 c fiveS.block w1 hr; rw [SB.rd_block fiveS_may (by decide)] at this; exact this, five10_any⟩

set_option maxHeartbeats 1000000 in
theorem alive10_any (I : SuperIs) (w : World) : Calls Try.prog 12 #[] w fun e w' => e = .returned (.bool true) ∧ Below w.heap.size w w' := by
  obtain ⟨K, HL, HT, CW, CR, CO⟩ := five_of I
  have B0 : Hid (Below w.heap.size w w) := Below.refl _ _
  go_enter Try.func12, Try.ntmps12
  go_wp2_with fail
  (with_reducible refine (CO.out _).mono ?_)
  rintro e w1 ⟨rfl, b1⟩
  have B1 := Lib.hid (thence B0.out b1 (Nat.le_refl _))
  clear b1 B0
  go_wp2_with fail
  (with_reducible refine (CW.out _).mono ?_)
  rintro e w2 ⟨a1, k1, rfl, r1, b2⟩
  have B2 := Lib.hid (thence B1.out b2 (Nat.le_refl _))
  have R1 := Lib.hid r1
  have HF : Hid (128 ≤ k1) := by have := r1.fits; rw [HL.out] at this; exact this
  obtain ⟨gb, off, rfl, -, -⟩ := r1.cells (by intro e; have := HL.out; rw [e] at this; cases this)
  clear r1
  have hf2 : 14 ≤ k1 := by have := HF.out; omega
  have T17 := text_is w2 _ _ _ _ (R1.out.take 14 (by decide))
  have HT1 := HT.out
  have HT2 : ((str (K.take 14)).toList == [83, 7, 0, 0, 0, 1, 0, 0, 0, 44, 1, 0, 0, 5]) = true := by rw [HT1]; rfl
  clear HT1
  clear b2 B1
  go_wp2_with fail
  go_ret
  exact ⟨rfl, B2.out⟩
end Go.Proofs.Ytjdcnajppjamgaa.PW
