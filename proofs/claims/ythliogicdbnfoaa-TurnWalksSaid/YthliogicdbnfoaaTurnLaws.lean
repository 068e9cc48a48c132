/-
  Layer 7's laws, given what the program's calls answer.
-/
import Derived.Test.YthliogicdbnfoaaTurnRefs
import Derived.Deep.QuietTactic
import Derived.BigQuiet
import Derived.Test.YthliogicdbnfoaaHoist
namespace Go.Proofs.Ythliogicdbnfoaa.PW
open Go.RowKit
open SK (Cfg)
set_option linter.unusedVariables false
set_option linter.unusedSimpArgs false
set_option maxRecDepth 100000

/-- What the program's calls answer. -/
structure TurnIs : Prop where
  spot : ∀ (id : Nat) (mem chunk rows log heads : Int) (b : Int) (w : World), Calls Try.prog 12 #[.agg #[.int .u32 (id : Int), .int .i64 mem, .int .i64 chunk, .int .i64 rows, .int .i64 log, .int .i64 heads], .int .i64 b] w fun e w' => e = .returned (.tuple #[.agg #[.int .i64 (if ask ⟨id, mem, chunk, rows, log, heads⟩ b (chunk * rows * (mem - 1)) 0 1 = 0 then TK.spotStripe ⟨id, mem, chunk, rows, log, heads⟩ b else 0), .int .i64 (if ask ⟨id, mem, chunk, rows, log, heads⟩ b (chunk * rows * (mem - 1)) 0 1 = 0 then TK.spotSlot ⟨id, mem, chunk, rows, log, heads⟩ b else 0), .int .i64 (if ask ⟨id, mem, chunk, rows, log, heads⟩ b (chunk * rows * (mem - 1)) 0 1 = 0 then TK.spotMember ⟨id, mem, chunk, rows, log, heads⟩ b else 0)], .int .i64 ((ask ⟨id, mem, chunk, rows, log, heads⟩ b (chunk * rows * (mem - 1)) 0 1 : Nat) : Int)]) ∧ Below w.heap.size w w'
  block : ∀ (id : Nat) (mem chunk rows log heads : Int) (s k : Int) (w : World), Calls Try.prog 8 #[.agg #[.int .u32 (id : Int), .int .i64 mem, .int .i64 chunk, .int .i64 rows, .int .i64 log, .int .i64 heads], .int .i64 s, .int .i64 k] w fun e w' => e = .returned (.tuple #[.int .i64 (if ask ⟨id, mem, chunk, rows, log, heads⟩ s (chunk * rows) k (mem - 1) = 0 then TK.blockAt ⟨id, mem, chunk, rows, log, heads⟩ s k else 0), .int .i64 ((ask ⟨id, mem, chunk, rows, log, heads⟩ s (chunk * rows) k (mem - 1) : Nat) : Int)]) ∧ Below w.heap.size w w'
  parity : ∀ (id : Nat) (mem chunk rows log heads : Int) (s : Int) (w : World), Calls Try.prog 16 #[.agg #[.int .u32 (id : Int), .int .i64 mem, .int .i64 chunk, .int .i64 rows, .int .i64 log, .int .i64 heads], .int .i64 s] w fun e w' => e = .returned (.tuple #[.int .i64 (if ask ⟨id, mem, chunk, rows, log, heads⟩ s (chunk * rows) 0 1 = 0 then TK.parityOf ⟨id, mem, chunk, rows, log, heads⟩ s else 0), .int .i64 ((ask ⟨id, mem, chunk, rows, log, heads⟩ s (chunk * rows) 0 1 : Nat) : Int)]) ∧ Below w.heap.size w w'
  member : ∀ (id : Nat) (mem chunk rows log heads : Int) (s k : Int) (w : World), Calls Try.prog 10 #[.agg #[.int .u32 (id : Int), .int .i64 mem, .int .i64 chunk, .int .i64 rows, .int .i64 log, .int .i64 heads], .int .i64 s, .int .i64 k] w fun e w' => e = .returned (.tuple #[.int .i64 (if ask ⟨id, mem, chunk, rows, log, heads⟩ s (chunk * rows) k mem = 0 then TK.memberOf ⟨id, mem, chunk, rows, log, heads⟩ s k else 0), .int .i64 ((ask ⟨id, mem, chunk, rows, log, heads⟩ s (chunk * rows) k mem : Nat) : Int)]) ∧ Below w.heap.size w w'
  slot : ∀ (id : Nat) (mem chunk rows log heads : Int) (s m : Int) (w : World), Calls Try.prog 11 #[.agg #[.int .u32 (id : Int), .int .i64 mem, .int .i64 chunk, .int .i64 rows, .int .i64 log, .int .i64 heads], .int .i64 s, .int .i64 m] w fun e w' => e = .returned (.tuple #[.int .i64 (if ask ⟨id, mem, chunk, rows, log, heads⟩ s (chunk * rows) m mem = 0 then TK.slotOf ⟨id, mem, chunk, rows, log, heads⟩ s m else 0), .int .i64 ((ask ⟨id, mem, chunk, rows, log, heads⟩ s (chunk * rows) m mem : Nat) : Int)]) ∧ Below w.heap.size w w'

set_option maxHeartbeats 2000000 in
theorem turnTells_walk (I : TurnIs) (id : Nat) (mem chunk rows log heads : Int) (b s k m : Int) (w : World) :
    Calls Try.prog 4 #[.agg #[.int .u32 (id : Int), .int .i64 mem, .int .i64 chunk, .int .i64 rows, .int .i64 log, .int .i64 heads], .int .i64 b, .int .i64 s, .int .i64 k, .int .i64 m] w fun e w' => e = .returned (.bool true) ∧ Below w.heap.size w w' := by
  have B0 : Hid (Below w.heap.size w (w.alloc (.cells #[.int .u32 (id : Int), .int .i64 mem, .int .i64 chunk, .int .i64 rows, .int .i64 log, .int .i64 heads] 27))) := (Below.refl _ _).alloc (Nat.le_refl _) _
  have BX : Hid (Bx (w.alloc (.cells #[.int .u32 (id : Int), .int .i64 mem, .int .i64 chunk, .int .i64 rows, .int .i64 log, .int .i64 heads] 27)) w.heap.size [.int .u32 (id : Int), .int .i64 mem, .int .i64 chunk, .int .i64 rows, .int .i64 log, .int .i64 heads]) := Bx.new w [.int .u32 (id : Int), .int .i64 mem, .int .i64 chunk, .int .i64 rows, .int .i64 log, .int .i64 heads] 27
  have PSpot := Lib.hid (I.spot id mem chunk rows log heads b)
  have RSpot := Lib.hid (ref7Spot_any id mem chunk rows log heads b)
  have PBlock := Lib.hid (I.block id mem chunk rows log heads s k)
  have RBlock := Lib.hid (ref7Block_any id mem chunk rows log heads s k)
  have PParity := Lib.hid (I.parity id mem chunk rows log heads s)
  have RParity := Lib.hid (ref7Parity_any id mem chunk rows log heads s)
  have PMember := Lib.hid (I.member id mem chunk rows log heads s k)
  have RMember := Lib.hid (ref7Member_any id mem chunk rows log heads s k)
  have PSlot := Lib.hid (I.slot id mem chunk rows log heads s m)
  have RSlot := Lib.hid (ref7Slot_any id mem chunk rows log heads s m)
  generalize (if ask ⟨id, mem, chunk, rows, log, heads⟩ b (chunk * rows * (mem - 1)) 0 1 = 0 then TK.spotStripe ⟨id, mem, chunk, rows, log, heads⟩ b else 0) = z0 at *
  generalize (if ask ⟨id, mem, chunk, rows, log, heads⟩ b (chunk * rows * (mem - 1)) 0 1 = 0 then TK.spotSlot ⟨id, mem, chunk, rows, log, heads⟩ b else 0) = z1 at *
  generalize (if ask ⟨id, mem, chunk, rows, log, heads⟩ b (chunk * rows * (mem - 1)) 0 1 = 0 then TK.spotMember ⟨id, mem, chunk, rows, log, heads⟩ b else 0) = z2 at *
  generalize (if ask ⟨id, mem, chunk, rows, log, heads⟩ s (chunk * rows) k (mem - 1) = 0 then TK.blockAt ⟨id, mem, chunk, rows, log, heads⟩ s k else 0) = vBlock at *
  generalize (if ask ⟨id, mem, chunk, rows, log, heads⟩ s (chunk * rows) 0 1 = 0 then TK.parityOf ⟨id, mem, chunk, rows, log, heads⟩ s else 0) = vParity at *
  generalize (if ask ⟨id, mem, chunk, rows, log, heads⟩ s (chunk * rows) k mem = 0 then TK.memberOf ⟨id, mem, chunk, rows, log, heads⟩ s k else 0) = vMember at *
  generalize (if ask ⟨id, mem, chunk, rows, log, heads⟩ s (chunk * rows) m mem = 0 then TK.slotOf ⟨id, mem, chunk, rows, log, heads⟩ s m else 0) = vSlot at *
  generalize ask ⟨id, mem, chunk, rows, log, heads⟩ b (chunk * rows * (mem - 1)) 0 1 = qSpot at *
  generalize ask ⟨id, mem, chunk, rows, log, heads⟩ s (chunk * rows) k (mem - 1) = qBlock at *
  generalize ask ⟨id, mem, chunk, rows, log, heads⟩ s (chunk * rows) 0 1 = qParity at *
  generalize ask ⟨id, mem, chunk, rows, log, heads⟩ s (chunk * rows) k mem = qMember at *
  generalize ask ⟨id, mem, chunk, rows, log, heads⟩ s (chunk * rows) m mem = qSlot at *
  go_enter Try.func4, Try.ntmps4
  go_wp2_with fail
  refine (PSpot.out _).mono ?_
  rintro e w1 ⟨rfl, b1⟩
  have BX := Lib.hid (BX.out.here b1)
  have ha1 : Below w1.heap.size w1 (w1.alloc (.cells #[.int .i64 z0, .int .i64 z1, .int .i64 z2] 30)) := (Below.refl _ _).alloc (Nat.le_refl _) _
  have BX := Lib.hid (BX.out.here ha1)
  have BA : Hid (Bx (w1.alloc (.cells #[.int .i64 z0, .int .i64 z1, .int .i64 z2] 30)) w1.heap.size [.int .i64 z0, .int .i64 z1, .int .i64 z2]) := Bx.new w1 [.int .i64 z0, .int .i64 z1, .int .i64 z2] 30
  have B1 := Lib.hid (thence B0.out (thence b1 ha1 (Nat.le_refl _)) (Nat.le_refl _))
  clear ha1
  clear b1 B0
  obtain ⟨c0, c1, c2, c3, c4, c5⟩ := BX.out.six
  have ltBX := BX.out.lt
  obtain ⟨a0, a1, a2⟩ := BA.out.three
  have ltBA := BA.out.lt
  go_wp2_with fail
  refine (RSpot.out _).mono ?_
  rintro e w2 ⟨rfl, b2⟩
  clear c0 c1 c2 c3 c4 c5 a0 a1 a2 ltBX ltBA
  have BX := Lib.hid (BX.out.here b2)
  have BA := Lib.hid (BA.out.here b2)
  have ha2 : Below w2.heap.size w2 (w2.alloc (.cells #[.int .i64 z0, .int .i64 z1, .int .i64 z2] 30)) := (Below.refl _ _).alloc (Nat.le_refl _) _
  have BX := Lib.hid (BX.out.here ha2)
  have BA := Lib.hid (BA.out.here ha2)
  have BB : Hid (Bx (w2.alloc (.cells #[.int .i64 z0, .int .i64 z1, .int .i64 z2] 30)) w2.heap.size [.int .i64 z0, .int .i64 z1, .int .i64 z2]) := Bx.new w2 [.int .i64 z0, .int .i64 z1, .int .i64 z2] 30
  have B2 := Lib.hid (thence B1.out (thence b2 ha2 (Nat.le_refl _)) (Nat.le_refl _))
  clear ha2
  clear b2 B1
  obtain ⟨c0, c1, c2, c3, c4, c5⟩ := BX.out.six
  have ltBX := BX.out.lt
  obtain ⟨a0, a1, a2⟩ := BA.out.three
  have ltBA := BA.out.lt
  obtain ⟨e0, e1, e2⟩ := BB.out.three
  have ltBB := BB.out.lt
  go_wp2_with fail
  refine (PBlock.out _).mono ?_
  rintro e w3 ⟨rfl, b3⟩
  clear c0 c1 c2 c3 c4 c5 a0 a1 a2 e0 e1 e2 ltBX ltBA ltBB
  have BX := Lib.hid (BX.out.here b3)
  have BA := Lib.hid (BA.out.here b3)
  have BB := Lib.hid (BB.out.here b3)
  have B3 := Lib.hid (thence B2.out b3 (Nat.le_refl _))
  clear b3 B2
  obtain ⟨c0, c1, c2, c3, c4, c5⟩ := BX.out.six
  have ltBX := BX.out.lt
  obtain ⟨a0, a1, a2⟩ := BA.out.three
  have ltBA := BA.out.lt
  obtain ⟨e0, e1, e2⟩ := BB.out.three
  have ltBB := BB.out.lt
  go_wp2_with fail
  refine (RBlock.out _).mono ?_
  rintro e w4 ⟨rfl, b4⟩
  clear c0 c1 c2 c3 c4 c5 a0 a1 a2 e0 e1 e2 ltBX ltBA ltBB
  have BX := Lib.hid (BX.out.here b4)
  have BA := Lib.hid (BA.out.here b4)
  have BB := Lib.hid (BB.out.here b4)
  have B4 := Lib.hid (thence B3.out b4 (Nat.le_refl _))
  clear b4 B3
  obtain ⟨c0, c1, c2, c3, c4, c5⟩ := BX.out.six
  have ltBX := BX.out.lt
  obtain ⟨a0, a1, a2⟩ := BA.out.three
  have ltBA := BA.out.lt
  obtain ⟨e0, e1, e2⟩ := BB.out.three
  have ltBB := BB.out.lt
  go_wp2_with fail
  refine (PParity.out _).mono ?_
  rintro e w5 ⟨rfl, b5⟩
  clear c0 c1 c2 c3 c4 c5 a0 a1 a2 e0 e1 e2 ltBX ltBA ltBB
  have BX := Lib.hid (BX.out.here b5)
  have BA := Lib.hid (BA.out.here b5)
  have BB := Lib.hid (BB.out.here b5)
  have B5 := Lib.hid (thence B4.out b5 (Nat.le_refl _))
  clear b5 B4
  obtain ⟨c0, c1, c2, c3, c4, c5⟩ := BX.out.six
  have ltBX := BX.out.lt
  obtain ⟨a0, a1, a2⟩ := BA.out.three
  have ltBA := BA.out.lt
  obtain ⟨e0, e1, e2⟩ := BB.out.three
  have ltBB := BB.out.lt
  go_wp2_with fail
  refine (RParity.out _).mono ?_
  rintro e w6 ⟨rfl, b6⟩
  clear c0 c1 c2 c3 c4 c5 a0 a1 a2 e0 e1 e2 ltBX ltBA ltBB
  have BX := Lib.hid (BX.out.here b6)
  have BA := Lib.hid (BA.out.here b6)
  have BB := Lib.hid (BB.out.here b6)
  have B6 := Lib.hid (thence B5.out b6 (Nat.le_refl _))
  clear b6 B5
  obtain ⟨c0, c1, c2, c3, c4, c5⟩ := BX.out.six
  have ltBX := BX.out.lt
  obtain ⟨a0, a1, a2⟩ := BA.out.three
  have ltBA := BA.out.lt
  obtain ⟨e0, e1, e2⟩ := BB.out.three
  have ltBB := BB.out.lt
  go_wp2_with fail
  refine (PMember.out _).mono ?_
  rintro e w7 ⟨rfl, b7⟩
  clear c0 c1 c2 c3 c4 c5 a0 a1 a2 e0 e1 e2 ltBX ltBA ltBB
  have BX := Lib.hid (BX.out.here b7)
  have BA := Lib.hid (BA.out.here b7)
  have BB := Lib.hid (BB.out.here b7)
  have B7 := Lib.hid (thence B6.out b7 (Nat.le_refl _))
  clear b7 B6
  obtain ⟨c0, c1, c2, c3, c4, c5⟩ := BX.out.six
  have ltBX := BX.out.lt
  obtain ⟨a0, a1, a2⟩ := BA.out.three
  have ltBA := BA.out.lt
  obtain ⟨e0, e1, e2⟩ := BB.out.three
  have ltBB := BB.out.lt
  go_wp2_with fail
  refine (RMember.out _).mono ?_
  rintro e w8 ⟨rfl, b8⟩
  clear c0 c1 c2 c3 c4 c5 a0 a1 a2 e0 e1 e2 ltBX ltBA ltBB
  have BX := Lib.hid (BX.out.here b8)
  have BA := Lib.hid (BA.out.here b8)
  have BB := Lib.hid (BB.out.here b8)
  have B8 := Lib.hid (thence B7.out b8 (Nat.le_refl _))
  clear b8 B7
  obtain ⟨c0, c1, c2, c3, c4, c5⟩ := BX.out.six
  have ltBX := BX.out.lt
  obtain ⟨a0, a1, a2⟩ := BA.out.three
  have ltBA := BA.out.lt
  obtain ⟨e0, e1, e2⟩ := BB.out.three
  have ltBB := BB.out.lt
  go_wp2_with fail
  refine (PSlot.out _).mono ?_
  rintro e w9 ⟨rfl, b9⟩
  clear c0 c1 c2 c3 c4 c5 a0 a1 a2 e0 e1 e2 ltBX ltBA ltBB
  have BX := Lib.hid (BX.out.here b9)
  have BA := Lib.hid (BA.out.here b9)
  have BB := Lib.hid (BB.out.here b9)
  have B9 := Lib.hid (thence B8.out b9 (Nat.le_refl _))
  clear b9 B8
  obtain ⟨c0, c1, c2, c3, c4, c5⟩ := BX.out.six
  have ltBX := BX.out.lt
  obtain ⟨a0, a1, a2⟩ := BA.out.three
  have ltBA := BA.out.lt
  obtain ⟨e0, e1, e2⟩ := BB.out.three
  have ltBB := BB.out.lt
  go_wp2_with fail
  refine (RSlot.out _).mono ?_
  rintro e w10 ⟨rfl, b10⟩
  clear c0 c1 c2 c3 c4 c5 a0 a1 a2 e0 e1 e2 ltBX ltBA ltBB
  have BX := Lib.hid (BX.out.here b10)
  have BA := Lib.hid (BA.out.here b10)
  have BB := Lib.hid (BB.out.here b10)
  have B10 := Lib.hid (thence B9.out b10 (Nat.le_refl _))
  clear b10 B9
  obtain ⟨c0, c1, c2, c3, c4, c5⟩ := BX.out.six
  have ltBX := BX.out.lt
  obtain ⟨a0, a1, a2⟩ := BA.out.three
  have ltBA := BA.out.lt
  obtain ⟨e0, e1, e2⟩ := BB.out.three
  have ltBB := BB.out.lt
  go_wp2_with fail
  go_ret
  exact ⟨rfl, B10.out⟩

theorem small7_any (w : World) : Calls Try.prog 9 #[] w fun e w' => e = .returned (.agg #[.int .u32 0, .int .i64 3, .int .i64 2, .int .i64 3, .int .i64 12, .int .i64 2]) ∧ Below w.heap.size w w' := by
  go_enter Try.func9, Try.ntmps9
  go_wp2
  refine bodyPost_ret (v := .agg #[.int .u32 0, .int .i64 3, .int .i64 2, .int .i64 3, .int .i64 12, .int .i64 2]) (by simp [results, Try.results9, go_sem]) rfl ⟨rfl, ?_⟩
  exact (Below.refl _ _).alloc (Nat.le_refl _) _

set_option maxHeartbeats 1000000 in
theorem spot7_is (I : TurnIs) (b st sl me : Int) (w : World) (h : ask ⟨0, 3, 2, 3, 12, 2⟩ b (2 * 3 * (3 - 1)) 0 1 = 0) (h1 : TK.spotStripe ⟨0, 3, 2, 3, 12, 2⟩ b = st) (h2 : TK.spotSlot ⟨0, 3, 2, 3, 12, 2⟩ b = sl) (h3 : TK.spotMember ⟨0, 3, 2, 3, 12, 2⟩ b = me) :
    Calls Try.prog 27 #[.int .i64 b, .int .i64 st, .int .i64 sl, .int .i64 me] w fun e w' => e = .returned (.bool true) ∧ Below w.heap.size w w' := by
  have CP : Hid (∀ w1, Calls Try.prog 12 #[.agg #[.int .u32 0, .int .i64 3, .int .i64 2, .int .i64 3, .int .i64 12, .int .i64 2], .int .i64 b] w1 fun e w' => e = .returned (.tuple #[.agg #[.int .i64 st, .int .i64 sl, .int .i64 me], .int .i64 0]) ∧ Below w1.heap.size w1 w') := fun w1 => by
    have := I.spot 0 3 2 3 12 2 b w1
    simp only [h, if_pos] at this
    rw [h1, h2, h3] at this
    exact this
  have CS := Lib.hid small7_any
  have B0 : Hid (Below w.heap.size w w) := Below.refl _ _
  clear h h1 h2 h3
  go_enter Try.func27, Try.ntmps27
  go_wp2_with fail
  refine (CS.out _).mono ?_
  rintro e w1 ⟨rfl, b1⟩
  have B1 := Lib.hid (thence B0.out b1 (Nat.le_refl _))
  clear b1 B0
  go_wp2_with fail
  refine (CP.out _).mono ?_
  rintro e w2 ⟨rfl, b2⟩
  have ha2 : Below w2.heap.size w2 (w2.alloc (.cells #[.int .i64 st, .int .i64 sl, .int .i64 me] 30)) := (Below.refl _ _).alloc (Nat.le_refl _) _
  have BA : Hid (Bx (w2.alloc (.cells #[.int .i64 st, .int .i64 sl, .int .i64 me] 30)) w2.heap.size [.int .i64 st, .int .i64 sl, .int .i64 me]) := Bx.new w2 [.int .i64 st, .int .i64 sl, .int .i64 me] 30
  have B2 := Lib.hid (thence B1.out (thence b2 ha2 (Nat.le_refl _)) (Nat.le_refl _))
  clear ha2
  clear b2 B1
  obtain ⟨a0, a1, a2⟩ := BA.out.three
  have ltBA := BA.out.lt
  go_wp2_with fail
  go_ret
  exact ⟨rfl, B2.out⟩

set_option maxHeartbeats 1000000 in
theorem parity7_is (I : TurnIs) (s me : Int) (w : World) (h : ask ⟨0, 3, 2, 3, 12, 2⟩ s (2 * 3) 0 1 = 0) (h1 : TK.parityOf ⟨0, 3, 2, 3, 12, 2⟩ s = me) :
    Calls Try.prog 28 #[.int .i64 s, .int .i64 me] w fun e w' => e = .returned (.bool true) ∧ Below w.heap.size w w' := by
  have CP : Hid (∀ w1, Calls Try.prog 16 #[.agg #[.int .u32 0, .int .i64 3, .int .i64 2, .int .i64 3, .int .i64 12, .int .i64 2], .int .i64 s] w1 fun e w' => e = .returned (.tuple #[.int .i64 me, .int .i64 0]) ∧ Below w1.heap.size w1 w') := fun w1 => by
    have := I.parity 0 3 2 3 12 2 s w1
    simp only [h, if_pos] at this
    rw [h1] at this
    exact this
  have CS := Lib.hid small7_any
  have B0 : Hid (Below w.heap.size w w) := Below.refl _ _
  clear h h1
  go_enter Try.func28, Try.ntmps28
  go_wp2_with fail
  refine (CS.out _).mono ?_
  rintro e w1 ⟨rfl, b1⟩
  have B1 := Lib.hid (thence B0.out b1 (Nat.le_refl _))
  clear b1 B0
  go_wp2_with fail
  refine (CP.out _).mono ?_
  rintro e w2 ⟨rfl, b2⟩
  have B2 := Lib.hid (thence B1.out b2 (Nat.le_refl _))
  clear b2 B1
  go_wp2_with fail
  go_ret
  exact ⟨rfl, B2.out⟩

set_option maxHeartbeats 1000000 in
theorem alive7_any (I : TurnIs) (w : World) : Calls Try.prog 13 #[] w fun e w' => e = .returned (.bool true) ∧ Below w.heap.size w w' := by
  have B0 : Hid (Below w.heap.size w w) := Below.refl _ _
  go_enter Try.func13, Try.ntmps13
  go_wp2_with fail
  refine (spot7_is I 0 0 0 0 _ (by decide +kernel) (by decide +kernel) (by decide +kernel) (by decide +kernel)).mono ?_
  rintro e w1 ⟨rfl, b1⟩
  have B1 := Lib.hid (thence B0.out b1 (Nat.le_refl _))
  clear b1 B0
  go_wp2_with fail
  refine (spot7_is I 1 1 0 0 _ (by decide +kernel) (by decide +kernel) (by decide +kernel) (by decide +kernel)).mono ?_
  rintro e w2 ⟨rfl, b2⟩
  have B2 := Lib.hid (thence B1.out b2 (Nat.le_refl _))
  clear b2 B1
  go_wp2_with fail
  refine (spot7_is I 2 0 1 1 _ (by decide +kernel) (by decide +kernel) (by decide +kernel) (by decide +kernel)).mono ?_
  rintro e w3 ⟨rfl, b3⟩
  have B3 := Lib.hid (thence B2.out b3 (Nat.le_refl _))
  clear b3 B2
  go_wp2_with fail
  refine (spot7_is I 4 2 0 2 _ (by decide +kernel) (by decide +kernel) (by decide +kernel) (by decide +kernel)).mono ?_
  rintro e w4 ⟨rfl, b4⟩
  have B4 := Lib.hid (thence B3.out b4 (Nat.le_refl _))
  clear b4 B3
  go_wp2_with fail
  refine (spot7_is I 11 5 1 2 _ (by decide +kernel) (by decide +kernel) (by decide +kernel) (by decide +kernel)).mono ?_
  rintro e w5 ⟨rfl, b5⟩
  have B5 := Lib.hid (thence B4.out b5 (Nat.le_refl _))
  clear b5 B4
  go_wp2_with fail
  refine (parity7_is I 0 2 _ (by decide +kernel) (by decide +kernel)).mono ?_
  rintro e w6 ⟨rfl, b6⟩
  have B6 := Lib.hid (thence B5.out b6 (Nat.le_refl _))
  clear b6 B5
  go_wp2_with fail
  refine (parity7_is I 1 2 _ (by decide +kernel) (by decide +kernel)).mono ?_
  rintro e w7 ⟨rfl, b7⟩
  have B7 := Lib.hid (thence B6.out b7 (Nat.le_refl _))
  clear b7 B6
  go_wp2_with fail
  refine (parity7_is I 2 1 _ (by decide +kernel) (by decide +kernel)).mono ?_
  rintro e w8 ⟨rfl, b8⟩
  have B8 := Lib.hid (thence B7.out b8 (Nat.le_refl _))
  clear b8 B7
  go_wp2_with fail
  refine (parity7_is I 4 0 _ (by decide +kernel) (by decide +kernel)).mono ?_
  rintro e w9 ⟨rfl, b9⟩
  have B9 := Lib.hid (thence B8.out b9 (Nat.le_refl _))
  clear b9 B8
  go_wp2_with fail
  go_ret
  exact ⟨rfl, B9.out⟩

set_option maxHeartbeats 1000000 in
theorem turnNames_walk (I : TurnIs) (w : World) : Calls Try.prog 3 #[] w fun e w' => e = .returned (.bool true) ∧ Below w.heap.size w w' := by
  have B0 : Hid (Below w.heap.size w w) := Below.refl _ _
  have CS := Lib.hid small7_any
  have CA := Lib.hid (alive7_any I)
  have K1 : Hid (∀ w1, Calls Try.prog 8 #[.agg #[.int .u32 0, .int .i64 3, .int .i64 2, .int .i64 3, .int .i64 12, .int .i64 2], .int .i64 2, .int .i64 1] w1 fun e w' => e = .returned (.tuple #[.int .i64 6, .int .i64 0]) ∧ Below w1.heap.size w1 w') := fun w1 => I.block 0 3 2 3 12 2 2 1 w1
  have K2 : Hid (∀ w1, Calls Try.prog 10 #[.agg #[.int .u32 0, .int .i64 3, .int .i64 2, .int .i64 3, .int .i64 12, .int .i64 2], .int .i64 2, .int .i64 2] w1 fun e w' => e = .returned (.tuple #[.int .i64 1, .int .i64 0]) ∧ Below w1.heap.size w1 w') := fun w1 => I.member 0 3 2 3 12 2 2 2 w1
  have K3 : Hid (∀ w1, Calls Try.prog 11 #[.agg #[.int .u32 0, .int .i64 3, .int .i64 2, .int .i64 3, .int .i64 12, .int .i64 2], .int .i64 2, .int .i64 0] w1 fun e w' => e = .returned (.tuple #[.int .i64 1, .int .i64 0]) ∧ Below w1.heap.size w1 w') := fun w1 => I.slot 0 3 2 3 12 2 2 0 w1
  have K4 : Hid (∀ w1, Calls Try.prog 12 #[.agg #[.int .u32 0, .int .i64 3, .int .i64 2, .int .i64 3, .int .i64 12, .int .i64 2], .int .i64 12] w1 fun e w' => e = .returned (.tuple #[.agg #[.int .i64 0, .int .i64 0, .int .i64 0], .int .i64 2]) ∧ Below w1.heap.size w1 w') := fun w1 => I.spot 0 3 2 3 12 2 12 w1
  have K5 : Hid (∀ w1, Calls Try.prog 8 #[.agg #[.int .u32 0, .int .i64 3, .int .i64 2, .int .i64 3, .int .i64 12, .int .i64 2], .int .i64 0, .int .i64 2] w1 fun e w' => e = .returned (.tuple #[.int .i64 0, .int .i64 2]) ∧ Below w1.heap.size w1 w') := fun w1 => I.block 0 3 2 3 12 2 0 2 w1
  have K6 : Hid (∀ w1, Calls Try.prog 10 #[.agg #[.int .u32 0, .int .i64 3, .int .i64 2, .int .i64 3, .int .i64 12, .int .i64 2], .int .i64 0, .int .i64 3] w1 fun e w' => e = .returned (.tuple #[.int .i64 0, .int .i64 2]) ∧ Below w1.heap.size w1 w') := fun w1 => I.member 0 3 2 3 12 2 0 3 w1
  have K7 : Hid (∀ w1, Calls Try.prog 11 #[.agg #[.int .u32 0, .int .i64 3, .int .i64 2, .int .i64 3, .int .i64 12, .int .i64 2], .int .i64 0, .int .i64 3] w1 fun e w' => e = .returned (.tuple #[.int .i64 0, .int .i64 2]) ∧ Below w1.heap.size w1 w') := fun w1 => I.slot 0 3 2 3 12 2 0 3 w1
  have K8 : Hid (∀ w1, Calls Try.prog 12 #[.agg #[.int .u32 0, .int .i64 0, .int .i64 0, .int .i64 0, .int .i64 0, .int .i64 0], .int .i64 0] w1 fun e w' => e = .returned (.tuple #[.agg #[.int .i64 0, .int .i64 0, .int .i64 0], .int .i64 8]) ∧ Below w1.heap.size w1 w') := fun w1 => I.spot 0 0 0 0 0 0 0 w1
  go_enter Try.func3, Try.ntmps3
  go_wp2_with fail
  refine (CS.out _).mono ?_
  rintro e w1 ⟨rfl, b1⟩
  have B1 := Lib.hid (thence B0.out b1 (Nat.le_refl _))
  clear b1 B0
  go_wp2_with fail
  refine (K1.out _).mono ?_
  rintro e w2 ⟨rfl, b2⟩
  have B2 := Lib.hid (thence B1.out b2 (Nat.le_refl _))
  clear b2 B1
  go_wp2_with fail
  refine (CS.out _).mono ?_
  rintro e w3 ⟨rfl, b3⟩
  have B3 := Lib.hid (thence B2.out b3 (Nat.le_refl _))
  clear b3 B2
  go_wp2_with fail
  refine (K2.out _).mono ?_
  rintro e w4 ⟨rfl, b4⟩
  have B4 := Lib.hid (thence B3.out b4 (Nat.le_refl _))
  clear b4 B3
  go_wp2_with fail
  refine (CS.out _).mono ?_
  rintro e w5 ⟨rfl, b5⟩
  have B5 := Lib.hid (thence B4.out b5 (Nat.le_refl _))
  clear b5 B4
  go_wp2_with fail
  refine (K3.out _).mono ?_
  rintro e w6 ⟨rfl, b6⟩
  have B6 := Lib.hid (thence B5.out b6 (Nat.le_refl _))
  clear b6 B5
  go_wp2_with fail
  refine (CS.out _).mono ?_
  rintro e w7 ⟨rfl, b7⟩
  have B7 := Lib.hid (thence B6.out b7 (Nat.le_refl _))
  clear b7 B6
  go_wp2_with fail
  refine (K4.out _).mono ?_
  rintro e w8 ⟨rfl, b8⟩
  have ha8 : Below w8.heap.size w8 (w8.alloc (.cells #[.int .i64 0, .int .i64 0, .int .i64 0] 30)) := (Below.refl _ _).alloc (Nat.le_refl _) _
  have BA : Hid (Bx (w8.alloc (.cells #[.int .i64 0, .int .i64 0, .int .i64 0] 30)) w8.heap.size [.int .i64 0, .int .i64 0, .int .i64 0]) := Bx.new w8 [.int .i64 0, .int .i64 0, .int .i64 0] 30
  have B8 := Lib.hid (thence B7.out (thence b8 ha8 (Nat.le_refl _)) (Nat.le_refl _))
  clear ha8
  clear b8 B7
  go_wp2_with fail
  refine (CS.out _).mono ?_
  rintro e w9 ⟨rfl, b9⟩
  have BA := Lib.hid (BA.out.here b9)
  have B9 := Lib.hid (thence B8.out b9 (Nat.le_refl _))
  clear b9 B8
  go_wp2_with fail
  refine (K5.out _).mono ?_
  rintro e w10 ⟨rfl, b10⟩
  have BA := Lib.hid (BA.out.here b10)
  have B10 := Lib.hid (thence B9.out b10 (Nat.le_refl _))
  clear b10 B9
  go_wp2_with fail
  refine (CS.out _).mono ?_
  rintro e w11 ⟨rfl, b11⟩
  have BA := Lib.hid (BA.out.here b11)
  have B11 := Lib.hid (thence B10.out b11 (Nat.le_refl _))
  clear b11 B10
  go_wp2_with fail
  refine (K6.out _).mono ?_
  rintro e w12 ⟨rfl, b12⟩
  have BA := Lib.hid (BA.out.here b12)
  have B12 := Lib.hid (thence B11.out b12 (Nat.le_refl _))
  clear b12 B11
  go_wp2_with fail
  refine (CS.out _).mono ?_
  rintro e w13 ⟨rfl, b13⟩
  have BA := Lib.hid (BA.out.here b13)
  have B13 := Lib.hid (thence B12.out b13 (Nat.le_refl _))
  clear b13 B12
  go_wp2_with fail
  refine (K7.out _).mono ?_
  rintro e w14 ⟨rfl, b14⟩
  have BA := Lib.hid (BA.out.here b14)
  have B14 := Lib.hid (thence B13.out b14 (Nat.le_refl _))
  clear b14 B13
  go_wp2_with fail
  refine (K8.out _).mono ?_
  rintro e w15 ⟨rfl, b15⟩
  have BA := Lib.hid (BA.out.here b15)
  have ha15 : Below w15.heap.size w15 (w15.alloc (.cells #[.int .i64 0, .int .i64 0, .int .i64 0] 30)) := (Below.refl _ _).alloc (Nat.le_refl _) _
  have BA := Lib.hid (BA.out.here ha15)
  have BB : Hid (Bx (w15.alloc (.cells #[.int .i64 0, .int .i64 0, .int .i64 0] 30)) w15.heap.size [.int .i64 0, .int .i64 0, .int .i64 0]) := Bx.new w15 [.int .i64 0, .int .i64 0, .int .i64 0] 30
  have B15 := Lib.hid (thence B14.out (thence b15 ha15 (Nat.le_refl _)) (Nat.le_refl _))
  clear ha15
  clear b15 B14
  go_wp2_with fail
  refine (CA.out _).mono ?_
  rintro e w16 ⟨rfl, b16⟩
  have BA := Lib.hid (BA.out.here b16)
  have BB := Lib.hid (BB.out.here b16)
  have B16 := Lib.hid (thence B15.out b16 (Nat.le_refl _))
  clear b16 B15
  go_wp2_with fail
  go_ret
  exact ⟨rfl, B16.out⟩

/-- The first numbers of a config that may be. -/
theorem cfg_facts {c : Cfg} (h : c.mayP) : 3 ≤ c.mem ∧ c.mem ≤ 16 ∧ 1 ≤ c.chunk ∧ c.chunk ≤ 8 ∧ 1 ≤ c.rows ∧ c.rows ≤ 8 := ⟨h.1.1, h.1.2, h.2.1.1, h.2.1.2, h.2.2.1.1, h.2.2.1.2⟩

set_option maxHeartbeats 4000000 in
theorem turnBack_walk (I : TurnIs) (id : Nat) (mem chunk rows log heads : Int) (b s m : Int) (w : World) :
    Calls Try.prog 5 #[.agg #[.int .u32 (id : Int), .int .i64 mem, .int .i64 chunk, .int .i64 rows, .int .i64 log, .int .i64 heads], .int .i64 b, .int .i64 s, .int .i64 m] w fun e w' => e = .returned (.bool true) ∧ Below w.heap.size w w' := by
  have B0 : Hid (Below w.heap.size w (w.alloc (.cells #[.int .u32 (id : Int), .int .i64 mem, .int .i64 chunk, .int .i64 rows, .int .i64 log, .int .i64 heads] 27))) := (Below.refl _ _).alloc (Nat.le_refl _) _
  have BX : Hid (Bx (w.alloc (.cells #[.int .u32 (id : Int), .int .i64 mem, .int .i64 chunk, .int .i64 rows, .int .i64 log, .int .i64 heads] 27)) w.heap.size [.int .u32 (id : Int), .int .i64 mem, .int .i64 chunk, .int .i64 rows, .int .i64 log, .int .i64 heads]) := Bx.new w [.int .u32 (id : Int), .int .i64 mem, .int .i64 chunk, .int .i64 rows, .int .i64 log, .int .i64 heads] 27
  have CA := Lib.hid (alive7_any I)
  by_cases H1 : ask ⟨id, mem, chunk, rows, log, heads⟩ b (chunk * rows * (mem - 1)) 0 1 = 0
  · by_cases H2 : ask ⟨id, mem, chunk, rows, log, heads⟩ s (chunk * rows) m mem = 0
    · by_cases H3 : TK.slotOf ⟨id, mem, chunk, rows, log, heads⟩ s m = mem - 1
      · skip
        have HA := ask_iff.1 (H1 : ask ⟨id, mem, chunk, rows, log, heads⟩ b (chunk * rows * (mem - 1)) 0 1 = 0)
        have SB := TK.spot_bd HA.1 HA.2.1 HA.2.2.1
        have PS : Hid (∀ w1, Calls Try.prog 12 #[.agg #[.int .u32 (id : Int), .int .i64 mem, .int .i64 chunk, .int .i64 rows, .int .i64 log, .int .i64 heads], .int .i64 b] w1 fun e w' => e = .returned (.tuple #[.agg #[.int .i64 (TK.spotStripe ⟨id, mem, chunk, rows, log, heads⟩ b), .int .i64 (TK.spotSlot ⟨id, mem, chunk, rows, log, heads⟩ b), .int .i64 (TK.spotMember ⟨id, mem, chunk, rows, log, heads⟩ b)], .int .i64 0]) ∧ Below w1.heap.size w1 w') := fun w1 => by
          have := I.spot id mem chunk rows log heads b w1
          have hq : ask ⟨id, mem, chunk, rows, log, heads⟩ b (chunk * rows * (mem - 1)) 0 1 = 0 := ask_iff.2 HA
          simp only [hq, if_pos] at this

          exact this
        have PB : Hid (∀ w1, Calls Try.prog 8 #[.agg #[.int .u32 (id : Int), .int .i64 mem, .int .i64 chunk, .int .i64 rows, .int .i64 log, .int .i64 heads], .int .i64 (TK.spotStripe ⟨id, mem, chunk, rows, log, heads⟩ b), .int .i64 (TK.spotSlot ⟨id, mem, chunk, rows, log, heads⟩ b)] w1 fun e w' => e = .returned (.tuple #[.int .i64 b, .int .i64 0]) ∧ Below w1.heap.size w1 w') := fun w1 => by
          have := I.block id mem chunk rows log heads (TK.spotStripe ⟨id, mem, chunk, rows, log, heads⟩ b) (TK.spotSlot ⟨id, mem, chunk, rows, log, heads⟩ b) w1
          have hq : ask ⟨id, mem, chunk, rows, log, heads⟩ (TK.spotStripe ⟨id, mem, chunk, rows, log, heads⟩ b) (chunk * rows) (TK.spotSlot ⟨id, mem, chunk, rows, log, heads⟩ b) (mem - 1) = 0 := ask_iff.2 ⟨HA.1, SB.1, SB.2.1, SB.2.2.1, SB.2.2.2.1⟩
          simp only [hq, if_pos] at this
          rw [(TK.at_iff HA.1 SB.2.2.1 SB.2.2.2.1).2 ⟨rfl, rfl⟩] at this
          exact this
        have PM : Hid (∀ w1, Calls Try.prog 10 #[.agg #[.int .u32 (id : Int), .int .i64 mem, .int .i64 chunk, .int .i64 rows, .int .i64 log, .int .i64 heads], .int .i64 (TK.spotStripe ⟨id, mem, chunk, rows, log, heads⟩ b), .int .i64 (TK.spotSlot ⟨id, mem, chunk, rows, log, heads⟩ b)] w1 fun e w' => e = .returned (.tuple #[.int .i64 (TK.spotMember ⟨id, mem, chunk, rows, log, heads⟩ b), .int .i64 0]) ∧ Below w1.heap.size w1 w') := fun w1 => by
          have := I.member id mem chunk rows log heads (TK.spotStripe ⟨id, mem, chunk, rows, log, heads⟩ b) (TK.spotSlot ⟨id, mem, chunk, rows, log, heads⟩ b) w1
          have hq : ask ⟨id, mem, chunk, rows, log, heads⟩ (TK.spotStripe ⟨id, mem, chunk, rows, log, heads⟩ b) (chunk * rows) (TK.spotSlot ⟨id, mem, chunk, rows, log, heads⟩ b) mem = 0 := ask_iff.2 ⟨HA.1, SB.1, SB.2.1, SB.2.2.1, by have h1 := SB.2.2.2.1; dsimp only at h1; omega⟩
          simp only [hq, if_pos] at this
          rw [TK.spot_member HA.1] at this
          exact this
        clear HA SB
        generalize TK.spotStripe ⟨id, mem, chunk, rows, log, heads⟩ b = S at *
        generalize TK.spotSlot ⟨id, mem, chunk, rows, log, heads⟩ b = K at *
        generalize TK.spotMember ⟨id, mem, chunk, rows, log, heads⟩ b = M at *
        have HA := ask_iff.1 (H2 : ask ⟨id, mem, chunk, rows, log, heads⟩ s (chunk * rows) m mem = 0)
        have SL := TK.slot_bd HA.1 s m
        have PL : Hid (∀ w1, Calls Try.prog 11 #[.agg #[.int .u32 (id : Int), .int .i64 mem, .int .i64 chunk, .int .i64 rows, .int .i64 log, .int .i64 heads], .int .i64 s, .int .i64 m] w1 fun e w' => e = .returned (.tuple #[.int .i64 (TK.slotOf ⟨id, mem, chunk, rows, log, heads⟩ s m), .int .i64 0]) ∧ Below w1.heap.size w1 w') := fun w1 => by
          have := I.slot id mem chunk rows log heads s m w1
          have hq : ask ⟨id, mem, chunk, rows, log, heads⟩ s (chunk * rows) m mem = 0 := ask_iff.2 HA
          simp only [hq, if_pos] at this

          exact this
        have PN : Hid (∀ w1, Calls Try.prog 10 #[.agg #[.int .u32 (id : Int), .int .i64 mem, .int .i64 chunk, .int .i64 rows, .int .i64 log, .int .i64 heads], .int .i64 s, .int .i64 (TK.slotOf ⟨id, mem, chunk, rows, log, heads⟩ s m)] w1 fun e w' => e = .returned (.tuple #[.int .i64 m, .int .i64 0]) ∧ Below w1.heap.size w1 w') := fun w1 => by
          have := I.member id mem chunk rows log heads s (TK.slotOf ⟨id, mem, chunk, rows, log, heads⟩ s m) w1
          have hq : ask ⟨id, mem, chunk, rows, log, heads⟩ s (chunk * rows) (TK.slotOf ⟨id, mem, chunk, rows, log, heads⟩ s m) mem = 0 := ask_iff.2 ⟨HA.1, HA.2.1, HA.2.2.1, SL.1, SL.2⟩
          simp only [hq, if_pos] at this
          rw [TK.member_slot HA.1 HA.2.2.2.1 HA.2.2.2.2] at this
          exact this
        have PP : Hid (∀ w1, Calls Try.prog 16 #[.agg #[.int .u32 (id : Int), .int .i64 mem, .int .i64 chunk, .int .i64 rows, .int .i64 log, .int .i64 heads], .int .i64 s] w1 fun e w' => e = .returned (.tuple #[.int .i64 (TK.parityOf ⟨id, mem, chunk, rows, log, heads⟩ s), .int .i64 0]) ∧ Below w1.heap.size w1 w') := fun w1 => by
          have := I.parity id mem chunk rows log heads s w1
          have hq : ask ⟨id, mem, chunk, rows, log, heads⟩ s (chunk * rows) 0 1 = 0 := ask_iff.2 ⟨HA.1, HA.2.1, HA.2.2.1, Int.le_refl _, by decide⟩
          simp only [hq, if_pos] at this

          exact this
        have LAST := Lib.hid (TK.slot_last HA.1 (s := s) HA.2.2.2.1 HA.2.2.2.2)
        obtain ⟨k0, k1, -⟩ := cfg_facts HA.1
        have HA2 := Lib.hid HA
        have e1 := H3
        have e2 := LAST.out.1 e1
        rw [e1] at PL PN
        rw [e2] at PP
        clear e1 e2 HA SL
        have f1 : ((mem - 1 : Int) == mem - 1) = true := beq_iff_eq.2 rfl
        have f2 : ((m : Int) == m) = true := beq_iff_eq.2 rfl
        clear H1 H2 H3 LAST HA2
        go_enter Try.func5, Try.ntmps5
        go_wp2_with fail
        refine (CA.out _).mono ?_
        rintro e w1 ⟨rfl, b1⟩
        have BX := Lib.hid (BX.out.here b1)
        have B1 := Lib.hid (thence B0.out b1 (Nat.le_refl _))
        clear b1 B0
        obtain ⟨c0, c1, c2, c3, c4, c5⟩ := BX.out.six
        have ltBX := BX.out.lt
        go_wp2_with fail
        refine (PS.out _).mono ?_
        rintro e w2 ⟨rfl, b2⟩
        clear c0 c1 c2 c3 c4 c5 ltBX
        have BX := Lib.hid (BX.out.here b2)
        have ha2 : Below w2.heap.size w2 (w2.alloc (.cells #[.int .i64 S, .int .i64 K, .int .i64 M] 30)) := (Below.refl _ _).alloc (Nat.le_refl _) _
        have BX := Lib.hid (BX.out.here ha2)
        have BA : Hid (Bx (w2.alloc (.cells #[.int .i64 S, .int .i64 K, .int .i64 M] 30)) w2.heap.size [.int .i64 S, .int .i64 K, .int .i64 M]) := Bx.new w2 [.int .i64 S, .int .i64 K, .int .i64 M] 30
        have B2 := Lib.hid (thence B1.out (thence b2 ha2 (Nat.le_refl _)) (Nat.le_refl _))
        clear ha2
        clear b2 B1
        obtain ⟨c0, c1, c2, c3, c4, c5⟩ := BX.out.six
        have ltBX := BX.out.lt
        obtain ⟨a0, a1, a2⟩ := BA.out.three
        have ltBA := BA.out.lt
        go_wp2_with fail
        refine (PB.out _).mono ?_
        rintro e w3 ⟨rfl, b3⟩
        clear c0 c1 c2 c3 c4 c5 a0 a1 a2 ltBX ltBA
        have BX := Lib.hid (BX.out.here b3)
        have BA := Lib.hid (BA.out.here b3)
        have B3 := Lib.hid (thence B2.out b3 (Nat.le_refl _))
        clear b3 B2
        obtain ⟨c0, c1, c2, c3, c4, c5⟩ := BX.out.six
        have ltBX := BX.out.lt
        obtain ⟨a0, a1, a2⟩ := BA.out.three
        have ltBA := BA.out.lt
        go_wp2_with fail
        refine (PM.out _).mono ?_
        rintro e w4 ⟨rfl, b4⟩
        clear c0 c1 c2 c3 c4 c5 a0 a1 a2 ltBX ltBA
        have BX := Lib.hid (BX.out.here b4)
        have BA := Lib.hid (BA.out.here b4)
        have B4 := Lib.hid (thence B3.out b4 (Nat.le_refl _))
        clear b4 B3
        obtain ⟨c0, c1, c2, c3, c4, c5⟩ := BX.out.six
        have ltBX := BX.out.lt
        obtain ⟨a0, a1, a2⟩ := BA.out.three
        have ltBA := BA.out.lt
        go_wp2_with fail
        refine (PL.out _).mono ?_
        rintro e w5 ⟨rfl, b5⟩
        clear c0 c1 c2 c3 c4 c5 a0 a1 a2 ltBX ltBA
        have BX := Lib.hid (BX.out.here b5)
        have BA := Lib.hid (BA.out.here b5)
        have B5 := Lib.hid (thence B4.out b5 (Nat.le_refl _))
        clear b5 B4
        obtain ⟨c0, c1, c2, c3, c4, c5⟩ := BX.out.six
        have ltBX := BX.out.lt
        obtain ⟨a0, a1, a2⟩ := BA.out.three
        have ltBA := BA.out.lt
        go_wp2_with fail
        refine (PN.out _).mono ?_
        rintro e w6 ⟨rfl, b6⟩
        clear c0 c1 c2 c3 c4 c5 a0 a1 a2 ltBX ltBA
        have BX := Lib.hid (BX.out.here b6)
        have BA := Lib.hid (BA.out.here b6)
        have B6 := Lib.hid (thence B5.out b6 (Nat.le_refl _))
        clear b6 B5
        obtain ⟨c0, c1, c2, c3, c4, c5⟩ := BX.out.six
        have ltBX := BX.out.lt
        obtain ⟨a0, a1, a2⟩ := BA.out.three
        have ltBA := BA.out.lt
        go_wp2_with fail
        refine (PP.out _).mono ?_
        rintro e w7 ⟨rfl, b7⟩
        clear c0 c1 c2 c3 c4 c5 a0 a1 a2 ltBX ltBA
        have BX := Lib.hid (BX.out.here b7)
        have BA := Lib.hid (BA.out.here b7)
        have B7 := Lib.hid (thence B6.out b7 (Nat.le_refl _))
        clear b7 B6
        obtain ⟨c0, c1, c2, c3, c4, c5⟩ := BX.out.six
        have ltBX := BX.out.lt
        obtain ⟨a0, a1, a2⟩ := BA.out.three
        have ltBA := BA.out.lt
        go_wp2_with fail
        go_ret
        exact ⟨rfl, B7.out⟩
      · skip
        have HA := ask_iff.1 (H1 : ask ⟨id, mem, chunk, rows, log, heads⟩ b (chunk * rows * (mem - 1)) 0 1 = 0)
        have SB := TK.spot_bd HA.1 HA.2.1 HA.2.2.1
        have PS : Hid (∀ w1, Calls Try.prog 12 #[.agg #[.int .u32 (id : Int), .int .i64 mem, .int .i64 chunk, .int .i64 rows, .int .i64 log, .int .i64 heads], .int .i64 b] w1 fun e w' => e = .returned (.tuple #[.agg #[.int .i64 (TK.spotStripe ⟨id, mem, chunk, rows, log, heads⟩ b), .int .i64 (TK.spotSlot ⟨id, mem, chunk, rows, log, heads⟩ b), .int .i64 (TK.spotMember ⟨id, mem, chunk, rows, log, heads⟩ b)], .int .i64 0]) ∧ Below w1.heap.size w1 w') := fun w1 => by
          have := I.spot id mem chunk rows log heads b w1
          have hq : ask ⟨id, mem, chunk, rows, log, heads⟩ b (chunk * rows * (mem - 1)) 0 1 = 0 := ask_iff.2 HA
          simp only [hq, if_pos] at this

          exact this
        have PB : Hid (∀ w1, Calls Try.prog 8 #[.agg #[.int .u32 (id : Int), .int .i64 mem, .int .i64 chunk, .int .i64 rows, .int .i64 log, .int .i64 heads], .int .i64 (TK.spotStripe ⟨id, mem, chunk, rows, log, heads⟩ b), .int .i64 (TK.spotSlot ⟨id, mem, chunk, rows, log, heads⟩ b)] w1 fun e w' => e = .returned (.tuple #[.int .i64 b, .int .i64 0]) ∧ Below w1.heap.size w1 w') := fun w1 => by
          have := I.block id mem chunk rows log heads (TK.spotStripe ⟨id, mem, chunk, rows, log, heads⟩ b) (TK.spotSlot ⟨id, mem, chunk, rows, log, heads⟩ b) w1
          have hq : ask ⟨id, mem, chunk, rows, log, heads⟩ (TK.spotStripe ⟨id, mem, chunk, rows, log, heads⟩ b) (chunk * rows) (TK.spotSlot ⟨id, mem, chunk, rows, log, heads⟩ b) (mem - 1) = 0 := ask_iff.2 ⟨HA.1, SB.1, SB.2.1, SB.2.2.1, SB.2.2.2.1⟩
          simp only [hq, if_pos] at this
          rw [(TK.at_iff HA.1 SB.2.2.1 SB.2.2.2.1).2 ⟨rfl, rfl⟩] at this
          exact this
        have PM : Hid (∀ w1, Calls Try.prog 10 #[.agg #[.int .u32 (id : Int), .int .i64 mem, .int .i64 chunk, .int .i64 rows, .int .i64 log, .int .i64 heads], .int .i64 (TK.spotStripe ⟨id, mem, chunk, rows, log, heads⟩ b), .int .i64 (TK.spotSlot ⟨id, mem, chunk, rows, log, heads⟩ b)] w1 fun e w' => e = .returned (.tuple #[.int .i64 (TK.spotMember ⟨id, mem, chunk, rows, log, heads⟩ b), .int .i64 0]) ∧ Below w1.heap.size w1 w') := fun w1 => by
          have := I.member id mem chunk rows log heads (TK.spotStripe ⟨id, mem, chunk, rows, log, heads⟩ b) (TK.spotSlot ⟨id, mem, chunk, rows, log, heads⟩ b) w1
          have hq : ask ⟨id, mem, chunk, rows, log, heads⟩ (TK.spotStripe ⟨id, mem, chunk, rows, log, heads⟩ b) (chunk * rows) (TK.spotSlot ⟨id, mem, chunk, rows, log, heads⟩ b) mem = 0 := ask_iff.2 ⟨HA.1, SB.1, SB.2.1, SB.2.2.1, by have h1 := SB.2.2.2.1; dsimp only at h1; omega⟩
          simp only [hq, if_pos] at this
          rw [TK.spot_member HA.1] at this
          exact this
        clear HA SB
        generalize TK.spotStripe ⟨id, mem, chunk, rows, log, heads⟩ b = S at *
        generalize TK.spotSlot ⟨id, mem, chunk, rows, log, heads⟩ b = K at *
        generalize TK.spotMember ⟨id, mem, chunk, rows, log, heads⟩ b = M at *
        have HA := ask_iff.1 (H2 : ask ⟨id, mem, chunk, rows, log, heads⟩ s (chunk * rows) m mem = 0)
        have SL := TK.slot_bd HA.1 s m
        have PL : Hid (∀ w1, Calls Try.prog 11 #[.agg #[.int .u32 (id : Int), .int .i64 mem, .int .i64 chunk, .int .i64 rows, .int .i64 log, .int .i64 heads], .int .i64 s, .int .i64 m] w1 fun e w' => e = .returned (.tuple #[.int .i64 (TK.slotOf ⟨id, mem, chunk, rows, log, heads⟩ s m), .int .i64 0]) ∧ Below w1.heap.size w1 w') := fun w1 => by
          have := I.slot id mem chunk rows log heads s m w1
          have hq : ask ⟨id, mem, chunk, rows, log, heads⟩ s (chunk * rows) m mem = 0 := ask_iff.2 HA
          simp only [hq, if_pos] at this

          exact this
        have PN : Hid (∀ w1, Calls Try.prog 10 #[.agg #[.int .u32 (id : Int), .int .i64 mem, .int .i64 chunk, .int .i64 rows, .int .i64 log, .int .i64 heads], .int .i64 s, .int .i64 (TK.slotOf ⟨id, mem, chunk, rows, log, heads⟩ s m)] w1 fun e w' => e = .returned (.tuple #[.int .i64 m, .int .i64 0]) ∧ Below w1.heap.size w1 w') := fun w1 => by
          have := I.member id mem chunk rows log heads s (TK.slotOf ⟨id, mem, chunk, rows, log, heads⟩ s m) w1
          have hq : ask ⟨id, mem, chunk, rows, log, heads⟩ s (chunk * rows) (TK.slotOf ⟨id, mem, chunk, rows, log, heads⟩ s m) mem = 0 := ask_iff.2 ⟨HA.1, HA.2.1, HA.2.2.1, SL.1, SL.2⟩
          simp only [hq, if_pos] at this
          rw [TK.member_slot HA.1 HA.2.2.2.1 HA.2.2.2.2] at this
          exact this
        have PP : Hid (∀ w1, Calls Try.prog 16 #[.agg #[.int .u32 (id : Int), .int .i64 mem, .int .i64 chunk, .int .i64 rows, .int .i64 log, .int .i64 heads], .int .i64 s] w1 fun e w' => e = .returned (.tuple #[.int .i64 (TK.parityOf ⟨id, mem, chunk, rows, log, heads⟩ s), .int .i64 0]) ∧ Below w1.heap.size w1 w') := fun w1 => by
          have := I.parity id mem chunk rows log heads s w1
          have hq : ask ⟨id, mem, chunk, rows, log, heads⟩ s (chunk * rows) 0 1 = 0 := ask_iff.2 ⟨HA.1, HA.2.1, HA.2.2.1, Int.le_refl _, by decide⟩
          simp only [hq, if_pos] at this

          exact this
        have LAST := Lib.hid (TK.slot_last HA.1 (s := s) HA.2.2.2.1 HA.2.2.2.2)
        obtain ⟨k0, k1, -⟩ := cfg_facts HA.1
        have HA2 := Lib.hid HA
        have e3 : ¬ TK.parityOf ⟨id, mem, chunk, rows, log, heads⟩ s = m := fun e => H3 (LAST.out.2 e)
        have e4 : TK.slotOf ⟨id, mem, chunk, rows, log, heads⟩ s m < mem - 1 := by have h1 := SL.2; have h2 := H3; dsimp only at h1 h2; omega
        have BB := TK.block_bd HA.1 HA.2.1 HA.2.2.1 SL.1 e4
        have AB := (TK.at_iff HA.1 SL.1 e4 (b := TK.blockAt ⟨id, mem, chunk, rows, log, heads⟩ s (TK.slotOf ⟨id, mem, chunk, rows, log, heads⟩ s m)) (s := s)).1 rfl
        have SMb := TK.spot_member HA.1 (b := TK.blockAt ⟨id, mem, chunk, rows, log, heads⟩ s (TK.slotOf ⟨id, mem, chunk, rows, log, heads⟩ s m))
        rw [← AB.1, ← AB.2, TK.member_slot HA.1 HA.2.2.2.1 HA.2.2.2.2] at SMb
        have PB2 : Hid (∀ w1, Calls Try.prog 8 #[.agg #[.int .u32 (id : Int), .int .i64 mem, .int .i64 chunk, .int .i64 rows, .int .i64 log, .int .i64 heads], .int .i64 s, .int .i64 (TK.slotOf ⟨id, mem, chunk, rows, log, heads⟩ s m)] w1 fun e w' => e = .returned (.tuple #[.int .i64 (TK.blockAt ⟨id, mem, chunk, rows, log, heads⟩ s (TK.slotOf ⟨id, mem, chunk, rows, log, heads⟩ s m)), .int .i64 0]) ∧ Below w1.heap.size w1 w') := fun w1 => by
          have := I.block id mem chunk rows log heads s (TK.slotOf ⟨id, mem, chunk, rows, log, heads⟩ s m) w1
          have hq : ask ⟨id, mem, chunk, rows, log, heads⟩ s (chunk * rows) (TK.slotOf ⟨id, mem, chunk, rows, log, heads⟩ s m) (mem - 1) = 0 := ask_iff.2 ⟨HA.1, HA.2.1, HA.2.2.1, SL.1, e4⟩
          simp only [hq, if_pos] at this

          exact this
        have PS2 : Hid (∀ w1, Calls Try.prog 12 #[.agg #[.int .u32 (id : Int), .int .i64 mem, .int .i64 chunk, .int .i64 rows, .int .i64 log, .int .i64 heads], .int .i64 (TK.blockAt ⟨id, mem, chunk, rows, log, heads⟩ s (TK.slotOf ⟨id, mem, chunk, rows, log, heads⟩ s m))] w1 fun e w' => e = .returned (.tuple #[.agg #[.int .i64 s, .int .i64 (TK.slotOf ⟨id, mem, chunk, rows, log, heads⟩ s m), .int .i64 m], .int .i64 0]) ∧ Below w1.heap.size w1 w') := fun w1 => by
          have := I.spot id mem chunk rows log heads (TK.blockAt ⟨id, mem, chunk, rows, log, heads⟩ s (TK.slotOf ⟨id, mem, chunk, rows, log, heads⟩ s m)) w1
          have hq : ask ⟨id, mem, chunk, rows, log, heads⟩ (TK.blockAt ⟨id, mem, chunk, rows, log, heads⟩ s (TK.slotOf ⟨id, mem, chunk, rows, log, heads⟩ s m)) (chunk * rows * (mem - 1)) 0 1 = 0 := ask_iff.2 ⟨HA.1, BB.1, BB.2, Int.le_refl _, by decide⟩
          simp only [hq, if_pos] at this
          rw [← AB.1, ← AB.2, ← SMb] at this
          exact this
        have f1 : ((TK.slotOf ⟨id, mem, chunk, rows, log, heads⟩ s m : Int) == mem - 1) = false := beq_eq_false_iff_ne.2 H3
        have f2 : ((TK.parityOf ⟨id, mem, chunk, rows, log, heads⟩ s : Int) == m) = false := beq_eq_false_iff_ne.2 e3
        clear HA SL BB AB SMb e3 e4
        generalize TK.blockAt ⟨id, mem, chunk, rows, log, heads⟩ s (TK.slotOf ⟨id, mem, chunk, rows, log, heads⟩ s m) = bb at *
        generalize TK.parityOf ⟨id, mem, chunk, rows, log, heads⟩ s = pp at *
        generalize TK.slotOf ⟨id, mem, chunk, rows, log, heads⟩ s m = kk at *
        clear H1 H2 H3 LAST HA2
        go_enter Try.func5, Try.ntmps5
        go_wp2_with fail
        refine (CA.out _).mono ?_
        rintro e w1 ⟨rfl, b1⟩
        have BX := Lib.hid (BX.out.here b1)
        have B1 := Lib.hid (thence B0.out b1 (Nat.le_refl _))
        clear b1 B0
        obtain ⟨c0, c1, c2, c3, c4, c5⟩ := BX.out.six
        have ltBX := BX.out.lt
        go_wp2_with fail
        refine (PS.out _).mono ?_
        rintro e w2 ⟨rfl, b2⟩
        clear c0 c1 c2 c3 c4 c5 ltBX
        have BX := Lib.hid (BX.out.here b2)
        have ha2 : Below w2.heap.size w2 (w2.alloc (.cells #[.int .i64 S, .int .i64 K, .int .i64 M] 30)) := (Below.refl _ _).alloc (Nat.le_refl _) _
        have BX := Lib.hid (BX.out.here ha2)
        have BA : Hid (Bx (w2.alloc (.cells #[.int .i64 S, .int .i64 K, .int .i64 M] 30)) w2.heap.size [.int .i64 S, .int .i64 K, .int .i64 M]) := Bx.new w2 [.int .i64 S, .int .i64 K, .int .i64 M] 30
        have B2 := Lib.hid (thence B1.out (thence b2 ha2 (Nat.le_refl _)) (Nat.le_refl _))
        clear ha2
        clear b2 B1
        obtain ⟨c0, c1, c2, c3, c4, c5⟩ := BX.out.six
        have ltBX := BX.out.lt
        obtain ⟨a0, a1, a2⟩ := BA.out.three
        have ltBA := BA.out.lt
        go_wp2_with fail
        refine (PB.out _).mono ?_
        rintro e w3 ⟨rfl, b3⟩
        clear c0 c1 c2 c3 c4 c5 a0 a1 a2 ltBX ltBA
        have BX := Lib.hid (BX.out.here b3)
        have BA := Lib.hid (BA.out.here b3)
        have B3 := Lib.hid (thence B2.out b3 (Nat.le_refl _))
        clear b3 B2
        obtain ⟨c0, c1, c2, c3, c4, c5⟩ := BX.out.six
        have ltBX := BX.out.lt
        obtain ⟨a0, a1, a2⟩ := BA.out.three
        have ltBA := BA.out.lt
        go_wp2_with fail
        refine (PM.out _).mono ?_
        rintro e w4 ⟨rfl, b4⟩
        clear c0 c1 c2 c3 c4 c5 a0 a1 a2 ltBX ltBA
        have BX := Lib.hid (BX.out.here b4)
        have BA := Lib.hid (BA.out.here b4)
        have B4 := Lib.hid (thence B3.out b4 (Nat.le_refl _))
        clear b4 B3
        obtain ⟨c0, c1, c2, c3, c4, c5⟩ := BX.out.six
        have ltBX := BX.out.lt
        obtain ⟨a0, a1, a2⟩ := BA.out.three
        have ltBA := BA.out.lt
        go_wp2_with fail
        refine (PL.out _).mono ?_
        rintro e w5 ⟨rfl, b5⟩
        clear c0 c1 c2 c3 c4 c5 a0 a1 a2 ltBX ltBA
        have BX := Lib.hid (BX.out.here b5)
        have BA := Lib.hid (BA.out.here b5)
        have B5 := Lib.hid (thence B4.out b5 (Nat.le_refl _))
        clear b5 B4
        obtain ⟨c0, c1, c2, c3, c4, c5⟩ := BX.out.six
        have ltBX := BX.out.lt
        obtain ⟨a0, a1, a2⟩ := BA.out.three
        have ltBA := BA.out.lt
        go_wp2_with fail
        refine (PN.out _).mono ?_
        rintro e w6 ⟨rfl, b6⟩
        clear c0 c1 c2 c3 c4 c5 a0 a1 a2 ltBX ltBA
        have BX := Lib.hid (BX.out.here b6)
        have BA := Lib.hid (BA.out.here b6)
        have B6 := Lib.hid (thence B5.out b6 (Nat.le_refl _))
        clear b6 B5
        obtain ⟨c0, c1, c2, c3, c4, c5⟩ := BX.out.six
        have ltBX := BX.out.lt
        obtain ⟨a0, a1, a2⟩ := BA.out.three
        have ltBA := BA.out.lt
        go_wp2_with fail
        refine (PP.out _).mono ?_
        rintro e w7 ⟨rfl, b7⟩
        clear c0 c1 c2 c3 c4 c5 a0 a1 a2 ltBX ltBA
        have BX := Lib.hid (BX.out.here b7)
        have BA := Lib.hid (BA.out.here b7)
        have B7 := Lib.hid (thence B6.out b7 (Nat.le_refl _))
        clear b7 B6
        obtain ⟨c0, c1, c2, c3, c4, c5⟩ := BX.out.six
        have ltBX := BX.out.lt
        obtain ⟨a0, a1, a2⟩ := BA.out.three
        have ltBA := BA.out.lt
        go_wp2_with fail
        refine (PB2.out _).mono ?_
        rintro e w8 ⟨rfl, b8⟩
        clear c0 c1 c2 c3 c4 c5 a0 a1 a2 ltBX ltBA
        have BX := Lib.hid (BX.out.here b8)
        have BA := Lib.hid (BA.out.here b8)
        have B8 := Lib.hid (thence B7.out b8 (Nat.le_refl _))
        clear b8 B7
        obtain ⟨c0, c1, c2, c3, c4, c5⟩ := BX.out.six
        have ltBX := BX.out.lt
        obtain ⟨a0, a1, a2⟩ := BA.out.three
        have ltBA := BA.out.lt
        go_wp2_with fail
        refine (PS2.out _).mono ?_
        rintro e w9 ⟨rfl, b9⟩
        clear c0 c1 c2 c3 c4 c5 a0 a1 a2 ltBX ltBA
        have BX := Lib.hid (BX.out.here b9)
        have BA := Lib.hid (BA.out.here b9)
        have ha9 : Below w9.heap.size w9 (w9.alloc (.cells #[.int .i64 s, .int .i64 kk, .int .i64 m] 30)) := (Below.refl _ _).alloc (Nat.le_refl _) _
        have BX := Lib.hid (BX.out.here ha9)
        have BA := Lib.hid (BA.out.here ha9)
        have BT : Hid (Bx (w9.alloc (.cells #[.int .i64 s, .int .i64 kk, .int .i64 m] 30)) w9.heap.size [.int .i64 s, .int .i64 kk, .int .i64 m]) := Bx.new w9 [.int .i64 s, .int .i64 kk, .int .i64 m] 30
        have B9 := Lib.hid (thence B8.out (thence b9 ha9 (Nat.le_refl _)) (Nat.le_refl _))
        clear ha9
        clear b9 B8
        obtain ⟨c0, c1, c2, c3, c4, c5⟩ := BX.out.six
        have ltBX := BX.out.lt
        obtain ⟨a0, a1, a2⟩ := BA.out.three
        have ltBA := BA.out.lt
        obtain ⟨d0, d1, d2⟩ := BT.out.three
        have ltBT := BT.out.lt
        go_wp2_with fail
        go_ret
        exact ⟨rfl, B9.out⟩
    · skip
      have HA := ask_iff.1 (H1 : ask ⟨id, mem, chunk, rows, log, heads⟩ b (chunk * rows * (mem - 1)) 0 1 = 0)
      have SB := TK.spot_bd HA.1 HA.2.1 HA.2.2.1
      have PS : Hid (∀ w1, Calls Try.prog 12 #[.agg #[.int .u32 (id : Int), .int .i64 mem, .int .i64 chunk, .int .i64 rows, .int .i64 log, .int .i64 heads], .int .i64 b] w1 fun e w' => e = .returned (.tuple #[.agg #[.int .i64 (TK.spotStripe ⟨id, mem, chunk, rows, log, heads⟩ b), .int .i64 (TK.spotSlot ⟨id, mem, chunk, rows, log, heads⟩ b), .int .i64 (TK.spotMember ⟨id, mem, chunk, rows, log, heads⟩ b)], .int .i64 0]) ∧ Below w1.heap.size w1 w') := fun w1 => by
        have := I.spot id mem chunk rows log heads b w1
        have hq : ask ⟨id, mem, chunk, rows, log, heads⟩ b (chunk * rows * (mem - 1)) 0 1 = 0 := ask_iff.2 HA
        simp only [hq, if_pos] at this

        exact this
      have PB : Hid (∀ w1, Calls Try.prog 8 #[.agg #[.int .u32 (id : Int), .int .i64 mem, .int .i64 chunk, .int .i64 rows, .int .i64 log, .int .i64 heads], .int .i64 (TK.spotStripe ⟨id, mem, chunk, rows, log, heads⟩ b), .int .i64 (TK.spotSlot ⟨id, mem, chunk, rows, log, heads⟩ b)] w1 fun e w' => e = .returned (.tuple #[.int .i64 b, .int .i64 0]) ∧ Below w1.heap.size w1 w') := fun w1 => by
        have := I.block id mem chunk rows log heads (TK.spotStripe ⟨id, mem, chunk, rows, log, heads⟩ b) (TK.spotSlot ⟨id, mem, chunk, rows, log, heads⟩ b) w1
        have hq : ask ⟨id, mem, chunk, rows, log, heads⟩ (TK.spotStripe ⟨id, mem, chunk, rows, log, heads⟩ b) (chunk * rows) (TK.spotSlot ⟨id, mem, chunk, rows, log, heads⟩ b) (mem - 1) = 0 := ask_iff.2 ⟨HA.1, SB.1, SB.2.1, SB.2.2.1, SB.2.2.2.1⟩
        simp only [hq, if_pos] at this
        rw [(TK.at_iff HA.1 SB.2.2.1 SB.2.2.2.1).2 ⟨rfl, rfl⟩] at this
        exact this
      have PM : Hid (∀ w1, Calls Try.prog 10 #[.agg #[.int .u32 (id : Int), .int .i64 mem, .int .i64 chunk, .int .i64 rows, .int .i64 log, .int .i64 heads], .int .i64 (TK.spotStripe ⟨id, mem, chunk, rows, log, heads⟩ b), .int .i64 (TK.spotSlot ⟨id, mem, chunk, rows, log, heads⟩ b)] w1 fun e w' => e = .returned (.tuple #[.int .i64 (TK.spotMember ⟨id, mem, chunk, rows, log, heads⟩ b), .int .i64 0]) ∧ Below w1.heap.size w1 w') := fun w1 => by
        have := I.member id mem chunk rows log heads (TK.spotStripe ⟨id, mem, chunk, rows, log, heads⟩ b) (TK.spotSlot ⟨id, mem, chunk, rows, log, heads⟩ b) w1
        have hq : ask ⟨id, mem, chunk, rows, log, heads⟩ (TK.spotStripe ⟨id, mem, chunk, rows, log, heads⟩ b) (chunk * rows) (TK.spotSlot ⟨id, mem, chunk, rows, log, heads⟩ b) mem = 0 := ask_iff.2 ⟨HA.1, SB.1, SB.2.1, SB.2.2.1, by have h1 := SB.2.2.2.1; dsimp only at h1; omega⟩
        simp only [hq, if_pos] at this
        rw [TK.spot_member HA.1] at this
        exact this
      clear HA SB
      generalize TK.spotStripe ⟨id, mem, chunk, rows, log, heads⟩ b = S at *
      generalize TK.spotSlot ⟨id, mem, chunk, rows, log, heads⟩ b = K at *
      generalize TK.spotMember ⟨id, mem, chunk, rows, log, heads⟩ b = M at *
      obtain ⟨q2, hq2⟩ : ∃ q2, ask ⟨id, mem, chunk, rows, log, heads⟩ s (chunk * rows) m mem = q2 := ⟨_, rfl⟩
      have Hq2 := Lib.hid hq2
      have Nq2 := Lib.hid (show ¬ q2 = 0 by rw [← hq2]; exact H2)
      have PL : Hid (∀ w1, Calls Try.prog 11 #[.agg #[.int .u32 (id : Int), .int .i64 mem, .int .i64 chunk, .int .i64 rows, .int .i64 log, .int .i64 heads], .int .i64 s, .int .i64 m] w1 fun e w' => e = .returned (.tuple #[.int .i64 0, .int .i64 (q2 : Int)]) ∧ Below w1.heap.size w1 w') := fun w1 => by
        have := I.slot id mem chunk rows log heads s m w1
        rw [Hq2.out] at this
        simp only [if_neg Nq2.out] at this
        exact this
      have tq20 : ((q2 : Int) == 0) = false := beq_eq_false_iff_ne.2 (by have := Nq2.out; omega)
      have tq21 : ((q2 : Int) != 0) = true := by rw [bne, tq20]; rfl
      clear hq2
      clear H1 H2
      go_enter Try.func5, Try.ntmps5
      go_wp2_with fail
      refine (CA.out _).mono ?_
      rintro e w1 ⟨rfl, b1⟩
      have BX := Lib.hid (BX.out.here b1)
      have B1 := Lib.hid (thence B0.out b1 (Nat.le_refl _))
      clear b1 B0
      obtain ⟨c0, c1, c2, c3, c4, c5⟩ := BX.out.six
      have ltBX := BX.out.lt
      go_wp2_with fail
      refine (PS.out _).mono ?_
      rintro e w2 ⟨rfl, b2⟩
      clear c0 c1 c2 c3 c4 c5 ltBX
      have BX := Lib.hid (BX.out.here b2)
      have ha2 : Below w2.heap.size w2 (w2.alloc (.cells #[.int .i64 S, .int .i64 K, .int .i64 M] 30)) := (Below.refl _ _).alloc (Nat.le_refl _) _
      have BX := Lib.hid (BX.out.here ha2)
      have BA : Hid (Bx (w2.alloc (.cells #[.int .i64 S, .int .i64 K, .int .i64 M] 30)) w2.heap.size [.int .i64 S, .int .i64 K, .int .i64 M]) := Bx.new w2 [.int .i64 S, .int .i64 K, .int .i64 M] 30
      have B2 := Lib.hid (thence B1.out (thence b2 ha2 (Nat.le_refl _)) (Nat.le_refl _))
      clear ha2
      clear b2 B1
      obtain ⟨c0, c1, c2, c3, c4, c5⟩ := BX.out.six
      have ltBX := BX.out.lt
      obtain ⟨a0, a1, a2⟩ := BA.out.three
      have ltBA := BA.out.lt
      go_wp2_with fail
      refine (PB.out _).mono ?_
      rintro e w3 ⟨rfl, b3⟩
      clear c0 c1 c2 c3 c4 c5 a0 a1 a2 ltBX ltBA
      have BX := Lib.hid (BX.out.here b3)
      have BA := Lib.hid (BA.out.here b3)
      have B3 := Lib.hid (thence B2.out b3 (Nat.le_refl _))
      clear b3 B2
      obtain ⟨c0, c1, c2, c3, c4, c5⟩ := BX.out.six
      have ltBX := BX.out.lt
      obtain ⟨a0, a1, a2⟩ := BA.out.three
      have ltBA := BA.out.lt
      go_wp2_with fail
      refine (PM.out _).mono ?_
      rintro e w4 ⟨rfl, b4⟩
      clear c0 c1 c2 c3 c4 c5 a0 a1 a2 ltBX ltBA
      have BX := Lib.hid (BX.out.here b4)
      have BA := Lib.hid (BA.out.here b4)
      have B4 := Lib.hid (thence B3.out b4 (Nat.le_refl _))
      clear b4 B3
      obtain ⟨c0, c1, c2, c3, c4, c5⟩ := BX.out.six
      have ltBX := BX.out.lt
      obtain ⟨a0, a1, a2⟩ := BA.out.three
      have ltBA := BA.out.lt
      go_wp2_with fail
      refine (PL.out _).mono ?_
      rintro e w5 ⟨rfl, b5⟩
      clear c0 c1 c2 c3 c4 c5 a0 a1 a2 ltBX ltBA
      have BX := Lib.hid (BX.out.here b5)
      have BA := Lib.hid (BA.out.here b5)
      have B5 := Lib.hid (thence B4.out b5 (Nat.le_refl _))
      clear b5 B4
      obtain ⟨c0, c1, c2, c3, c4, c5⟩ := BX.out.six
      have ltBX := BX.out.lt
      obtain ⟨a0, a1, a2⟩ := BA.out.three
      have ltBA := BA.out.lt
      go_wp2_with fail
      go_ret
      exact ⟨rfl, B5.out⟩
  · by_cases H2 : ask ⟨id, mem, chunk, rows, log, heads⟩ s (chunk * rows) m mem = 0
    · by_cases H3 : TK.slotOf ⟨id, mem, chunk, rows, log, heads⟩ s m = mem - 1
      · skip
        obtain ⟨q1, hq1⟩ : ∃ q1, ask ⟨id, mem, chunk, rows, log, heads⟩ b (chunk * rows * (mem - 1)) 0 1 = q1 := ⟨_, rfl⟩
        have Hq1 := Lib.hid hq1
        have Nq1 := Lib.hid (show ¬ q1 = 0 by rw [← hq1]; exact H1)
        have PS : Hid (∀ w1, Calls Try.prog 12 #[.agg #[.int .u32 (id : Int), .int .i64 mem, .int .i64 chunk, .int .i64 rows, .int .i64 log, .int .i64 heads], .int .i64 b] w1 fun e w' => e = .returned (.tuple #[.agg #[.int .i64 0, .int .i64 0, .int .i64 0], .int .i64 (q1 : Int)]) ∧ Below w1.heap.size w1 w') := fun w1 => by
          have := I.spot id mem chunk rows log heads b w1
          rw [Hq1.out] at this
          simp only [if_neg Nq1.out] at this
          exact this
        have tq10 : ((q1 : Int) == 0) = false := beq_eq_false_iff_ne.2 (by have := Nq1.out; omega)
        have tq11 : ((q1 : Int) != 0) = true := by rw [bne, tq10]; rfl
        clear hq1
        have HA := ask_iff.1 (H2 : ask ⟨id, mem, chunk, rows, log, heads⟩ s (chunk * rows) m mem = 0)
        have SL := TK.slot_bd HA.1 s m
        have PL : Hid (∀ w1, Calls Try.prog 11 #[.agg #[.int .u32 (id : Int), .int .i64 mem, .int .i64 chunk, .int .i64 rows, .int .i64 log, .int .i64 heads], .int .i64 s, .int .i64 m] w1 fun e w' => e = .returned (.tuple #[.int .i64 (TK.slotOf ⟨id, mem, chunk, rows, log, heads⟩ s m), .int .i64 0]) ∧ Below w1.heap.size w1 w') := fun w1 => by
          have := I.slot id mem chunk rows log heads s m w1
          have hq : ask ⟨id, mem, chunk, rows, log, heads⟩ s (chunk * rows) m mem = 0 := ask_iff.2 HA
          simp only [hq, if_pos] at this

          exact this
        have PN : Hid (∀ w1, Calls Try.prog 10 #[.agg #[.int .u32 (id : Int), .int .i64 mem, .int .i64 chunk, .int .i64 rows, .int .i64 log, .int .i64 heads], .int .i64 s, .int .i64 (TK.slotOf ⟨id, mem, chunk, rows, log, heads⟩ s m)] w1 fun e w' => e = .returned (.tuple #[.int .i64 m, .int .i64 0]) ∧ Below w1.heap.size w1 w') := fun w1 => by
          have := I.member id mem chunk rows log heads s (TK.slotOf ⟨id, mem, chunk, rows, log, heads⟩ s m) w1
          have hq : ask ⟨id, mem, chunk, rows, log, heads⟩ s (chunk * rows) (TK.slotOf ⟨id, mem, chunk, rows, log, heads⟩ s m) mem = 0 := ask_iff.2 ⟨HA.1, HA.2.1, HA.2.2.1, SL.1, SL.2⟩
          simp only [hq, if_pos] at this
          rw [TK.member_slot HA.1 HA.2.2.2.1 HA.2.2.2.2] at this
          exact this
        have PP : Hid (∀ w1, Calls Try.prog 16 #[.agg #[.int .u32 (id : Int), .int .i64 mem, .int .i64 chunk, .int .i64 rows, .int .i64 log, .int .i64 heads], .int .i64 s] w1 fun e w' => e = .returned (.tuple #[.int .i64 (TK.parityOf ⟨id, mem, chunk, rows, log, heads⟩ s), .int .i64 0]) ∧ Below w1.heap.size w1 w') := fun w1 => by
          have := I.parity id mem chunk rows log heads s w1
          have hq : ask ⟨id, mem, chunk, rows, log, heads⟩ s (chunk * rows) 0 1 = 0 := ask_iff.2 ⟨HA.1, HA.2.1, HA.2.2.1, Int.le_refl _, by decide⟩
          simp only [hq, if_pos] at this

          exact this
        have LAST := Lib.hid (TK.slot_last HA.1 (s := s) HA.2.2.2.1 HA.2.2.2.2)
        obtain ⟨k0, k1, -⟩ := cfg_facts HA.1
        have HA2 := Lib.hid HA
        have e1 := H3
        have e2 := LAST.out.1 e1
        rw [e1] at PL PN
        rw [e2] at PP
        clear e1 e2 HA SL
        have f1 : ((mem - 1 : Int) == mem - 1) = true := beq_iff_eq.2 rfl
        have f2 : ((m : Int) == m) = true := beq_iff_eq.2 rfl
        clear H1 H2 H3 LAST HA2
        go_enter Try.func5, Try.ntmps5
        go_wp2_with fail
        refine (CA.out _).mono ?_
        rintro e w1 ⟨rfl, b1⟩
        have BX := Lib.hid (BX.out.here b1)
        have B1 := Lib.hid (thence B0.out b1 (Nat.le_refl _))
        clear b1 B0
        obtain ⟨c0, c1, c2, c3, c4, c5⟩ := BX.out.six
        have ltBX := BX.out.lt
        go_wp2_with fail
        refine (PS.out _).mono ?_
        rintro e w2 ⟨rfl, b2⟩
        clear c0 c1 c2 c3 c4 c5 ltBX
        have BX := Lib.hid (BX.out.here b2)
        have ha2 : Below w2.heap.size w2 (w2.alloc (.cells #[.int .i64 0, .int .i64 0, .int .i64 0] 30)) := (Below.refl _ _).alloc (Nat.le_refl _) _
        have BX := Lib.hid (BX.out.here ha2)
        have BA : Hid (Bx (w2.alloc (.cells #[.int .i64 0, .int .i64 0, .int .i64 0] 30)) w2.heap.size [.int .i64 0, .int .i64 0, .int .i64 0]) := Bx.new w2 [.int .i64 0, .int .i64 0, .int .i64 0] 30
        have B2 := Lib.hid (thence B1.out (thence b2 ha2 (Nat.le_refl _)) (Nat.le_refl _))
        clear ha2
        clear b2 B1
        obtain ⟨c0, c1, c2, c3, c4, c5⟩ := BX.out.six
        have ltBX := BX.out.lt
        obtain ⟨a0, a1, a2⟩ := BA.out.three
        have ltBA := BA.out.lt
        go_wp2_with fail
        refine (PL.out _).mono ?_
        rintro e w3 ⟨rfl, b3⟩
        clear c0 c1 c2 c3 c4 c5 a0 a1 a2 ltBX ltBA
        have BX := Lib.hid (BX.out.here b3)
        have BA := Lib.hid (BA.out.here b3)
        have B3 := Lib.hid (thence B2.out b3 (Nat.le_refl _))
        clear b3 B2
        obtain ⟨c0, c1, c2, c3, c4, c5⟩ := BX.out.six
        have ltBX := BX.out.lt
        obtain ⟨a0, a1, a2⟩ := BA.out.three
        have ltBA := BA.out.lt
        go_wp2_with fail
        refine (PN.out _).mono ?_
        rintro e w4 ⟨rfl, b4⟩
        clear c0 c1 c2 c3 c4 c5 a0 a1 a2 ltBX ltBA
        have BX := Lib.hid (BX.out.here b4)
        have BA := Lib.hid (BA.out.here b4)
        have B4 := Lib.hid (thence B3.out b4 (Nat.le_refl _))
        clear b4 B3
        obtain ⟨c0, c1, c2, c3, c4, c5⟩ := BX.out.six
        have ltBX := BX.out.lt
        obtain ⟨a0, a1, a2⟩ := BA.out.three
        have ltBA := BA.out.lt
        go_wp2_with fail
        refine (PP.out _).mono ?_
        rintro e w5 ⟨rfl, b5⟩
        clear c0 c1 c2 c3 c4 c5 a0 a1 a2 ltBX ltBA
        have BX := Lib.hid (BX.out.here b5)
        have BA := Lib.hid (BA.out.here b5)
        have B5 := Lib.hid (thence B4.out b5 (Nat.le_refl _))
        clear b5 B4
        obtain ⟨c0, c1, c2, c3, c4, c5⟩ := BX.out.six
        have ltBX := BX.out.lt
        obtain ⟨a0, a1, a2⟩ := BA.out.three
        have ltBA := BA.out.lt
        go_wp2_with fail
        go_ret
        exact ⟨rfl, B5.out⟩
      · skip
        obtain ⟨q1, hq1⟩ : ∃ q1, ask ⟨id, mem, chunk, rows, log, heads⟩ b (chunk * rows * (mem - 1)) 0 1 = q1 := ⟨_, rfl⟩
        have Hq1 := Lib.hid hq1
        have Nq1 := Lib.hid (show ¬ q1 = 0 by rw [← hq1]; exact H1)
        have PS : Hid (∀ w1, Calls Try.prog 12 #[.agg #[.int .u32 (id : Int), .int .i64 mem, .int .i64 chunk, .int .i64 rows, .int .i64 log, .int .i64 heads], .int .i64 b] w1 fun e w' => e = .returned (.tuple #[.agg #[.int .i64 0, .int .i64 0, .int .i64 0], .int .i64 (q1 : Int)]) ∧ Below w1.heap.size w1 w') := fun w1 => by
          have := I.spot id mem chunk rows log heads b w1
          rw [Hq1.out] at this
          simp only [if_neg Nq1.out] at this
          exact this
        have tq10 : ((q1 : Int) == 0) = false := beq_eq_false_iff_ne.2 (by have := Nq1.out; omega)
        have tq11 : ((q1 : Int) != 0) = true := by rw [bne, tq10]; rfl
        clear hq1
        have HA := ask_iff.1 (H2 : ask ⟨id, mem, chunk, rows, log, heads⟩ s (chunk * rows) m mem = 0)
        have SL := TK.slot_bd HA.1 s m
        have PL : Hid (∀ w1, Calls Try.prog 11 #[.agg #[.int .u32 (id : Int), .int .i64 mem, .int .i64 chunk, .int .i64 rows, .int .i64 log, .int .i64 heads], .int .i64 s, .int .i64 m] w1 fun e w' => e = .returned (.tuple #[.int .i64 (TK.slotOf ⟨id, mem, chunk, rows, log, heads⟩ s m), .int .i64 0]) ∧ Below w1.heap.size w1 w') := fun w1 => by
          have := I.slot id mem chunk rows log heads s m w1
          have hq : ask ⟨id, mem, chunk, rows, log, heads⟩ s (chunk * rows) m mem = 0 := ask_iff.2 HA
          simp only [hq, if_pos] at this

          exact this
        have PN : Hid (∀ w1, Calls Try.prog 10 #[.agg #[.int .u32 (id : Int), .int .i64 mem, .int .i64 chunk, .int .i64 rows, .int .i64 log, .int .i64 heads], .int .i64 s, .int .i64 (TK.slotOf ⟨id, mem, chunk, rows, log, heads⟩ s m)] w1 fun e w' => e = .returned (.tuple #[.int .i64 m, .int .i64 0]) ∧ Below w1.heap.size w1 w') := fun w1 => by
          have := I.member id mem chunk rows log heads s (TK.slotOf ⟨id, mem, chunk, rows, log, heads⟩ s m) w1
          have hq : ask ⟨id, mem, chunk, rows, log, heads⟩ s (chunk * rows) (TK.slotOf ⟨id, mem, chunk, rows, log, heads⟩ s m) mem = 0 := ask_iff.2 ⟨HA.1, HA.2.1, HA.2.2.1, SL.1, SL.2⟩
          simp only [hq, if_pos] at this
          rw [TK.member_slot HA.1 HA.2.2.2.1 HA.2.2.2.2] at this
          exact this
        have PP : Hid (∀ w1, Calls Try.prog 16 #[.agg #[.int .u32 (id : Int), .int .i64 mem, .int .i64 chunk, .int .i64 rows, .int .i64 log, .int .i64 heads], .int .i64 s] w1 fun e w' => e = .returned (.tuple #[.int .i64 (TK.parityOf ⟨id, mem, chunk, rows, log, heads⟩ s), .int .i64 0]) ∧ Below w1.heap.size w1 w') := fun w1 => by
          have := I.parity id mem chunk rows log heads s w1
          have hq : ask ⟨id, mem, chunk, rows, log, heads⟩ s (chunk * rows) 0 1 = 0 := ask_iff.2 ⟨HA.1, HA.2.1, HA.2.2.1, Int.le_refl _, by decide⟩
          simp only [hq, if_pos] at this

          exact this
        have LAST := Lib.hid (TK.slot_last HA.1 (s := s) HA.2.2.2.1 HA.2.2.2.2)
        obtain ⟨k0, k1, -⟩ := cfg_facts HA.1
        have HA2 := Lib.hid HA
        have e3 : ¬ TK.parityOf ⟨id, mem, chunk, rows, log, heads⟩ s = m := fun e => H3 (LAST.out.2 e)
        have e4 : TK.slotOf ⟨id, mem, chunk, rows, log, heads⟩ s m < mem - 1 := by have h1 := SL.2; have h2 := H3; dsimp only at h1 h2; omega
        have BB := TK.block_bd HA.1 HA.2.1 HA.2.2.1 SL.1 e4
        have AB := (TK.at_iff HA.1 SL.1 e4 (b := TK.blockAt ⟨id, mem, chunk, rows, log, heads⟩ s (TK.slotOf ⟨id, mem, chunk, rows, log, heads⟩ s m)) (s := s)).1 rfl
        have SMb := TK.spot_member HA.1 (b := TK.blockAt ⟨id, mem, chunk, rows, log, heads⟩ s (TK.slotOf ⟨id, mem, chunk, rows, log, heads⟩ s m))
        rw [← AB.1, ← AB.2, TK.member_slot HA.1 HA.2.2.2.1 HA.2.2.2.2] at SMb
        have PB2 : Hid (∀ w1, Calls Try.prog 8 #[.agg #[.int .u32 (id : Int), .int .i64 mem, .int .i64 chunk, .int .i64 rows, .int .i64 log, .int .i64 heads], .int .i64 s, .int .i64 (TK.slotOf ⟨id, mem, chunk, rows, log, heads⟩ s m)] w1 fun e w' => e = .returned (.tuple #[.int .i64 (TK.blockAt ⟨id, mem, chunk, rows, log, heads⟩ s (TK.slotOf ⟨id, mem, chunk, rows, log, heads⟩ s m)), .int .i64 0]) ∧ Below w1.heap.size w1 w') := fun w1 => by
          have := I.block id mem chunk rows log heads s (TK.slotOf ⟨id, mem, chunk, rows, log, heads⟩ s m) w1
          have hq : ask ⟨id, mem, chunk, rows, log, heads⟩ s (chunk * rows) (TK.slotOf ⟨id, mem, chunk, rows, log, heads⟩ s m) (mem - 1) = 0 := ask_iff.2 ⟨HA.1, HA.2.1, HA.2.2.1, SL.1, e4⟩
          simp only [hq, if_pos] at this

          exact this
        have PS2 : Hid (∀ w1, Calls Try.prog 12 #[.agg #[.int .u32 (id : Int), .int .i64 mem, .int .i64 chunk, .int .i64 rows, .int .i64 log, .int .i64 heads], .int .i64 (TK.blockAt ⟨id, mem, chunk, rows, log, heads⟩ s (TK.slotOf ⟨id, mem, chunk, rows, log, heads⟩ s m))] w1 fun e w' => e = .returned (.tuple #[.agg #[.int .i64 s, .int .i64 (TK.slotOf ⟨id, mem, chunk, rows, log, heads⟩ s m), .int .i64 m], .int .i64 0]) ∧ Below w1.heap.size w1 w') := fun w1 => by
          have := I.spot id mem chunk rows log heads (TK.blockAt ⟨id, mem, chunk, rows, log, heads⟩ s (TK.slotOf ⟨id, mem, chunk, rows, log, heads⟩ s m)) w1
          have hq : ask ⟨id, mem, chunk, rows, log, heads⟩ (TK.blockAt ⟨id, mem, chunk, rows, log, heads⟩ s (TK.slotOf ⟨id, mem, chunk, rows, log, heads⟩ s m)) (chunk * rows * (mem - 1)) 0 1 = 0 := ask_iff.2 ⟨HA.1, BB.1, BB.2, Int.le_refl _, by decide⟩
          simp only [hq, if_pos] at this
          rw [← AB.1, ← AB.2, ← SMb] at this
          exact this
        have f1 : ((TK.slotOf ⟨id, mem, chunk, rows, log, heads⟩ s m : Int) == mem - 1) = false := beq_eq_false_iff_ne.2 H3
        have f2 : ((TK.parityOf ⟨id, mem, chunk, rows, log, heads⟩ s : Int) == m) = false := beq_eq_false_iff_ne.2 e3
        clear HA SL BB AB SMb e3 e4
        generalize TK.blockAt ⟨id, mem, chunk, rows, log, heads⟩ s (TK.slotOf ⟨id, mem, chunk, rows, log, heads⟩ s m) = bb at *
        generalize TK.parityOf ⟨id, mem, chunk, rows, log, heads⟩ s = pp at *
        generalize TK.slotOf ⟨id, mem, chunk, rows, log, heads⟩ s m = kk at *
        clear H1 H2 H3 LAST HA2
        go_enter Try.func5, Try.ntmps5
        go_wp2_with fail
        refine (CA.out _).mono ?_
        rintro e w1 ⟨rfl, b1⟩
        have BX := Lib.hid (BX.out.here b1)
        have B1 := Lib.hid (thence B0.out b1 (Nat.le_refl _))
        clear b1 B0
        obtain ⟨c0, c1, c2, c3, c4, c5⟩ := BX.out.six
        have ltBX := BX.out.lt
        go_wp2_with fail
        refine (PS.out _).mono ?_
        rintro e w2 ⟨rfl, b2⟩
        clear c0 c1 c2 c3 c4 c5 ltBX
        have BX := Lib.hid (BX.out.here b2)
        have ha2 : Below w2.heap.size w2 (w2.alloc (.cells #[.int .i64 0, .int .i64 0, .int .i64 0] 30)) := (Below.refl _ _).alloc (Nat.le_refl _) _
        have BX := Lib.hid (BX.out.here ha2)
        have BA : Hid (Bx (w2.alloc (.cells #[.int .i64 0, .int .i64 0, .int .i64 0] 30)) w2.heap.size [.int .i64 0, .int .i64 0, .int .i64 0]) := Bx.new w2 [.int .i64 0, .int .i64 0, .int .i64 0] 30
        have B2 := Lib.hid (thence B1.out (thence b2 ha2 (Nat.le_refl _)) (Nat.le_refl _))
        clear ha2
        clear b2 B1
        obtain ⟨c0, c1, c2, c3, c4, c5⟩ := BX.out.six
        have ltBX := BX.out.lt
        obtain ⟨a0, a1, a2⟩ := BA.out.three
        have ltBA := BA.out.lt
        go_wp2_with fail
        refine (PL.out _).mono ?_
        rintro e w3 ⟨rfl, b3⟩
        clear c0 c1 c2 c3 c4 c5 a0 a1 a2 ltBX ltBA
        have BX := Lib.hid (BX.out.here b3)
        have BA := Lib.hid (BA.out.here b3)
        have B3 := Lib.hid (thence B2.out b3 (Nat.le_refl _))
        clear b3 B2
        obtain ⟨c0, c1, c2, c3, c4, c5⟩ := BX.out.six
        have ltBX := BX.out.lt
        obtain ⟨a0, a1, a2⟩ := BA.out.three
        have ltBA := BA.out.lt
        go_wp2_with fail
        refine (PN.out _).mono ?_
        rintro e w4 ⟨rfl, b4⟩
        clear c0 c1 c2 c3 c4 c5 a0 a1 a2 ltBX ltBA
        have BX := Lib.hid (BX.out.here b4)
        have BA := Lib.hid (BA.out.here b4)
        have B4 := Lib.hid (thence B3.out b4 (Nat.le_refl _))
        clear b4 B3
        obtain ⟨c0, c1, c2, c3, c4, c5⟩ := BX.out.six
        have ltBX := BX.out.lt
        obtain ⟨a0, a1, a2⟩ := BA.out.three
        have ltBA := BA.out.lt
        go_wp2_with fail
        refine (PP.out _).mono ?_
        rintro e w5 ⟨rfl, b5⟩
        clear c0 c1 c2 c3 c4 c5 a0 a1 a2 ltBX ltBA
        have BX := Lib.hid (BX.out.here b5)
        have BA := Lib.hid (BA.out.here b5)
        have B5 := Lib.hid (thence B4.out b5 (Nat.le_refl _))
        clear b5 B4
        obtain ⟨c0, c1, c2, c3, c4, c5⟩ := BX.out.six
        have ltBX := BX.out.lt
        obtain ⟨a0, a1, a2⟩ := BA.out.three
        have ltBA := BA.out.lt
        go_wp2_with fail
        refine (PB2.out _).mono ?_
        rintro e w6 ⟨rfl, b6⟩
        clear c0 c1 c2 c3 c4 c5 a0 a1 a2 ltBX ltBA
        have BX := Lib.hid (BX.out.here b6)
        have BA := Lib.hid (BA.out.here b6)
        have B6 := Lib.hid (thence B5.out b6 (Nat.le_refl _))
        clear b6 B5
        obtain ⟨c0, c1, c2, c3, c4, c5⟩ := BX.out.six
        have ltBX := BX.out.lt
        obtain ⟨a0, a1, a2⟩ := BA.out.three
        have ltBA := BA.out.lt
        go_wp2_with fail
        refine (PS2.out _).mono ?_
        rintro e w7 ⟨rfl, b7⟩
        clear c0 c1 c2 c3 c4 c5 a0 a1 a2 ltBX ltBA
        have BX := Lib.hid (BX.out.here b7)
        have BA := Lib.hid (BA.out.here b7)
        have ha7 : Below w7.heap.size w7 (w7.alloc (.cells #[.int .i64 s, .int .i64 kk, .int .i64 m] 30)) := (Below.refl _ _).alloc (Nat.le_refl _) _
        have BX := Lib.hid (BX.out.here ha7)
        have BA := Lib.hid (BA.out.here ha7)
        have BT : Hid (Bx (w7.alloc (.cells #[.int .i64 s, .int .i64 kk, .int .i64 m] 30)) w7.heap.size [.int .i64 s, .int .i64 kk, .int .i64 m]) := Bx.new w7 [.int .i64 s, .int .i64 kk, .int .i64 m] 30
        have B7 := Lib.hid (thence B6.out (thence b7 ha7 (Nat.le_refl _)) (Nat.le_refl _))
        clear ha7
        clear b7 B6
        obtain ⟨c0, c1, c2, c3, c4, c5⟩ := BX.out.six
        have ltBX := BX.out.lt
        obtain ⟨a0, a1, a2⟩ := BA.out.three
        have ltBA := BA.out.lt
        obtain ⟨d0, d1, d2⟩ := BT.out.three
        have ltBT := BT.out.lt
        go_wp2_with fail
        go_ret
        exact ⟨rfl, B7.out⟩
    · skip
      obtain ⟨q1, hq1⟩ : ∃ q1, ask ⟨id, mem, chunk, rows, log, heads⟩ b (chunk * rows * (mem - 1)) 0 1 = q1 := ⟨_, rfl⟩
      have Hq1 := Lib.hid hq1
      have Nq1 := Lib.hid (show ¬ q1 = 0 by rw [← hq1]; exact H1)
      have PS : Hid (∀ w1, Calls Try.prog 12 #[.agg #[.int .u32 (id : Int), .int .i64 mem, .int .i64 chunk, .int .i64 rows, .int .i64 log, .int .i64 heads], .int .i64 b] w1 fun e w' => e = .returned (.tuple #[.agg #[.int .i64 0, .int .i64 0, .int .i64 0], .int .i64 (q1 : Int)]) ∧ Below w1.heap.size w1 w') := fun w1 => by
        have := I.spot id mem chunk rows log heads b w1
        rw [Hq1.out] at this
        simp only [if_neg Nq1.out] at this
        exact this
      have tq10 : ((q1 : Int) == 0) = false := beq_eq_false_iff_ne.2 (by have := Nq1.out; omega)
      have tq11 : ((q1 : Int) != 0) = true := by rw [bne, tq10]; rfl
      clear hq1
      obtain ⟨q2, hq2⟩ : ∃ q2, ask ⟨id, mem, chunk, rows, log, heads⟩ s (chunk * rows) m mem = q2 := ⟨_, rfl⟩
      have Hq2 := Lib.hid hq2
      have Nq2 := Lib.hid (show ¬ q2 = 0 by rw [← hq2]; exact H2)
      have PL : Hid (∀ w1, Calls Try.prog 11 #[.agg #[.int .u32 (id : Int), .int .i64 mem, .int .i64 chunk, .int .i64 rows, .int .i64 log, .int .i64 heads], .int .i64 s, .int .i64 m] w1 fun e w' => e = .returned (.tuple #[.int .i64 0, .int .i64 (q2 : Int)]) ∧ Below w1.heap.size w1 w') := fun w1 => by
        have := I.slot id mem chunk rows log heads s m w1
        rw [Hq2.out] at this
        simp only [if_neg Nq2.out] at this
        exact this
      have tq20 : ((q2 : Int) == 0) = false := beq_eq_false_iff_ne.2 (by have := Nq2.out; omega)
      have tq21 : ((q2 : Int) != 0) = true := by rw [bne, tq20]; rfl
      clear hq2
      clear H1 H2
      go_enter Try.func5, Try.ntmps5
      go_wp2_with fail
      refine (CA.out _).mono ?_
      rintro e w1 ⟨rfl, b1⟩
      have BX := Lib.hid (BX.out.here b1)
      have B1 := Lib.hid (thence B0.out b1 (Nat.le_refl _))
      clear b1 B0
      obtain ⟨c0, c1, c2, c3, c4, c5⟩ := BX.out.six
      have ltBX := BX.out.lt
      go_wp2_with fail
      refine (PS.out _).mono ?_
      rintro e w2 ⟨rfl, b2⟩
      clear c0 c1 c2 c3 c4 c5 ltBX
      have BX := Lib.hid (BX.out.here b2)
      have ha2 : Below w2.heap.size w2 (w2.alloc (.cells #[.int .i64 0, .int .i64 0, .int .i64 0] 30)) := (Below.refl _ _).alloc (Nat.le_refl _) _
      have BX := Lib.hid (BX.out.here ha2)
      have BA : Hid (Bx (w2.alloc (.cells #[.int .i64 0, .int .i64 0, .int .i64 0] 30)) w2.heap.size [.int .i64 0, .int .i64 0, .int .i64 0]) := Bx.new w2 [.int .i64 0, .int .i64 0, .int .i64 0] 30
      have B2 := Lib.hid (thence B1.out (thence b2 ha2 (Nat.le_refl _)) (Nat.le_refl _))
      clear ha2
      clear b2 B1
      obtain ⟨c0, c1, c2, c3, c4, c5⟩ := BX.out.six
      have ltBX := BX.out.lt
      obtain ⟨a0, a1, a2⟩ := BA.out.three
      have ltBA := BA.out.lt
      go_wp2_with fail
      refine (PL.out _).mono ?_
      rintro e w3 ⟨rfl, b3⟩
      clear c0 c1 c2 c3 c4 c5 a0 a1 a2 ltBX ltBA
      have BX := Lib.hid (BX.out.here b3)
      have BA := Lib.hid (BA.out.here b3)
      have B3 := Lib.hid (thence B2.out b3 (Nat.le_refl _))
      clear b3 B2
      obtain ⟨c0, c1, c2, c3, c4, c5⟩ := BX.out.six
      have ltBX := BX.out.lt
      obtain ⟨a0, a1, a2⟩ := BA.out.three
      have ltBA := BA.out.lt
      go_wp2_with fail
      go_ret
      exact ⟨rfl, B3.out⟩

set_option maxHeartbeats 4000000 in
theorem turnWalks_walk (I : TurnIs) (J : ShapeNum 20 (fun c => c.chunk * c.rows * (c.mem - 1))) (id : Nat) (mem chunk rows log heads : Int) (b : Int) (w : World) :
    Calls Try.prog 6 #[.agg #[.int .u32 (id : Int), .int .i64 mem, .int .i64 chunk, .int .i64 rows, .int .i64 log, .int .i64 heads], .int .i64 b] w fun e w' => e = .returned (.bool true) ∧ Below w.heap.size w w' := by
  have B0 : Hid (Below w.heap.size w (w.alloc (.cells #[.int .u32 (id : Int), .int .i64 mem, .int .i64 chunk, .int .i64 rows, .int .i64 log, .int .i64 heads] 27))) := (Below.refl _ _).alloc (Nat.le_refl _) _
  have BX : Hid (Bx (w.alloc (.cells #[.int .u32 (id : Int), .int .i64 mem, .int .i64 chunk, .int .i64 rows, .int .i64 log, .int .i64 heads] 27)) w.heap.size [.int .u32 (id : Int), .int .i64 mem, .int .i64 chunk, .int .i64 rows, .int .i64 log, .int .i64 heads]) := Bx.new w [.int .u32 (id : Int), .int .i64 mem, .int .i64 chunk, .int .i64 rows, .int .i64 log, .int .i64 heads] 27
  have CA := Lib.hid (alive7_any I)
  by_cases H1 : ask ⟨id, mem, chunk, rows, log, heads⟩ b (chunk * rows * (mem - 1)) 0 1 = 0
  case neg =>
    obtain ⟨q1, hq1⟩ : ∃ q1, ask ⟨id, mem, chunk, rows, log, heads⟩ b (chunk * rows * (mem - 1)) 0 1 = q1 := ⟨_, rfl⟩
    have Hq1 := Lib.hid hq1
    have Nq1 := Lib.hid (show ¬ q1 = 0 by rw [← hq1]; exact H1)
    have PS : Hid (∀ w1, Calls Try.prog 12 #[.agg #[.int .u32 (id : Int), .int .i64 mem, .int .i64 chunk, .int .i64 rows, .int .i64 log, .int .i64 heads], .int .i64 b] w1 fun e w' => e = .returned (.tuple #[.agg #[.int .i64 0, .int .i64 0, .int .i64 0], .int .i64 (q1 : Int)]) ∧ Below w1.heap.size w1 w') := fun w1 => by
      have := I.spot id mem chunk rows log heads b w1
      rw [Hq1.out] at this
      simp only [if_neg Nq1.out] at this
      exact this
    have tq10 : ((q1 : Int) == 0) = false := beq_eq_false_iff_ne.2 (by have := Nq1.out; omega)
    have tq11 : ((q1 : Int) != 0) = true := by rw [bne, tq10]; rfl
    clear hq1
    clear H1
    go_enter Try.func6, Try.ntmps6
    go_wp2_with fail
    refine (CA.out _).mono ?_
    rintro e w1 ⟨rfl, b1⟩
    have BX := Lib.hid (BX.out.here b1)
    have B1 := Lib.hid (thence B0.out b1 (Nat.le_refl _))
    clear b1 B0
    obtain ⟨c0, c1, c2, c3, c4, c5⟩ := BX.out.six
    have ltBX := BX.out.lt
    go_wp2_with fail
    refine (PS.out _).mono ?_
    rintro e w2 ⟨rfl, b2⟩
    clear c0 c1 c2 c3 c4 c5 ltBX
    have BX := Lib.hid (BX.out.here b2)
    have ha2 : Below w2.heap.size w2 (w2.alloc (.cells #[.int .i64 0, .int .i64 0, .int .i64 0] 30)) := (Below.refl _ _).alloc (Nat.le_refl _) _
    have BX := Lib.hid (BX.out.here ha2)
    have BA : Hid (Bx (w2.alloc (.cells #[.int .i64 0, .int .i64 0, .int .i64 0] 30)) w2.heap.size [.int .i64 0, .int .i64 0, .int .i64 0]) := Bx.new w2 [.int .i64 0, .int .i64 0, .int .i64 0] 30
    have B2 := Lib.hid (thence B1.out (thence b2 ha2 (Nat.le_refl _)) (Nat.le_refl _))
    clear ha2
    clear b2 B1
    obtain ⟨c0, c1, c2, c3, c4, c5⟩ := BX.out.six
    have ltBX := BX.out.lt
    obtain ⟨a0, a1, a2⟩ := BA.out.three
    have ltBA := BA.out.lt
    go_wp2_with fail
    go_ret
    exact ⟨rfl, B2.out⟩
  by_cases H2 : ask ⟨id, mem, chunk, rows, log, heads⟩ (b + 1) (chunk * rows * (mem - 1)) 0 1 = 0
  case neg =>
    have HA := ask_iff.1 (H1 : ask ⟨id, mem, chunk, rows, log, heads⟩ b (chunk * rows * (mem - 1)) 0 1 = 0)
    obtain ⟨k0, k1, k2, k3, k4, k5⟩ := cfg_facts HA.1
    dsimp only at k0 k1 k2 k3 k4 k5
    have SB := TK.spot_bd HA.1 HA.2.1 HA.2.2.1
    have SR := TK.spot_row HA.1 (b := b)
    dsimp only at SR SB
    have cb := TK.chunk_bd HA.1 HA.2.1 HA.2.2.1
    dsimp only at cb
    obtain ⟨cb0, cb1, -, -⟩ := cb
    obtain ⟨sb0, sb1, sb2, sb3, sb4, sb5⟩ := SB
    have sb6 : TK.spotStripe ⟨id, mem, chunk, rows, log, heads⟩ b ≤ 63 := by have := (SK.stripes_bd HA.1).2; omega
    obtain ⟨rb0, rb1⟩ := TK.rem_bd (a := b) (b := chunk) (by omega)
    have gb0 : 0 ≤ b := HA.2.1
    have gb1 : b ≤ 960 := by have h1 := (SK.blocks_bd HA.1).2; have h2 := HA.2.2.1; unfold Cfg.blocks Cfg.stripes at h1; dsimp only at h1; omega
    have PS : Hid (∀ w1, Calls Try.prog 12 #[.agg #[.int .u32 (id : Int), .int .i64 mem, .int .i64 chunk, .int .i64 rows, .int .i64 log, .int .i64 heads], .int .i64 b] w1 fun e w' => e = .returned (.tuple #[.agg #[.int .i64 (TK.spotStripe ⟨id, mem, chunk, rows, log, heads⟩ b), .int .i64 (TK.spotSlot ⟨id, mem, chunk, rows, log, heads⟩ b), .int .i64 (b / chunk % mem)], .int .i64 0]) ∧ Below w1.heap.size w1 w') := fun w1 => by
      have := I.spot id mem chunk rows log heads b w1
      have hq : ask ⟨id, mem, chunk, rows, log, heads⟩ b (chunk * rows * (mem - 1)) 0 1 = 0 := ask_iff.2 HA
      simp only [hq, if_pos] at this

      exact this
    have f1 : ((b / chunk % mem : Int) != b / chunk % mem) = false := by rw [bne_self_eq_false]
    have f2 : ((TK.spotStripe ⟨id, mem, chunk, rows, log, heads⟩ b % chunk : Int) != b % chunk) = false := by rw [SR.2, bne_self_eq_false]
    have d1 : 0 ≤ TK.spotStripe ⟨id, mem, chunk, rows, log, heads⟩ b % chunk := by rw [SR.2]; exact rb0
    have e1 : b + 1 = chunk * rows * (mem - 1) := by have h1 := HA.2.2.1; have h2 : ¬ (b + 1 < chunk * rows * (mem - 1)) := fun h => H2 (ask_iff.2 ⟨HA.1, by omega, h, Int.le_refl _, by decide⟩); omega
    obtain ⟨q2, hq2⟩ : ∃ q2, ask ⟨id, mem, chunk, rows, log, heads⟩ (b + 1) (chunk * rows * (mem - 1)) 0 1 = q2 := ⟨_, rfl⟩
    have Hq2 := Lib.hid hq2
    have Nq2 := Lib.hid (show ¬ q2 = 0 by rw [← hq2]; exact H2)
    have PT : Hid (∀ w1, Calls Try.prog 12 #[.agg #[.int .u32 (id : Int), .int .i64 mem, .int .i64 chunk, .int .i64 rows, .int .i64 log, .int .i64 heads], .int .i64 (b + 1)] w1 fun e w' => e = .returned (.tuple #[.agg #[.int .i64 0, .int .i64 0, .int .i64 0], .int .i64 (q2 : Int)]) ∧ Below w1.heap.size w1 w') := fun w1 => by
      have := I.spot id mem chunk rows log heads (b + 1) w1
      rw [Hq2.out] at this
      simp only [if_neg Nq2.out] at this
      exact this
    have tq20 : ((q2 : Int) == 0) = false := beq_eq_false_iff_ne.2 (by have := Nq2.out; omega)
    have tq21 : ((q2 : Int) != 0) = true := by rw [bne, tq20]; rfl
    clear hq2
    have JB : Hid (∀ w1, Calls Try.prog 20 #[.agg #[.int .u32 (id : Int), .int .i64 mem, .int .i64 chunk, .int .i64 rows, .int .i64 log, .int .i64 heads]] w1 fun e w' => e = .returned (.tuple #[.int .i64 (chunk * rows * (mem - 1)), .int .i64 0]) ∧ Below w1.heap.size w1 w') := fun w1 => by
      have := J id mem chunk rows log heads w1
      rw [if_pos (SK.may_iff.2 HA.1), SK.code_yes (SK.may_iff.2 HA.1)] at this
      exact this
    have f3 : ((b + 1 : Int) == chunk * rows * (mem - 1)) = true := beq_iff_eq.2 e1
    clear e1
    clear HA SR
    generalize TK.spotStripe ⟨id, mem, chunk, rows, log, heads⟩ b = S at *
    generalize TK.spotSlot ⟨id, mem, chunk, rows, log, heads⟩ b = K at *
    clear H1 H2
    go_enter Try.func6, Try.ntmps6
    go_wp2_with fail
    refine (CA.out _).mono ?_
    rintro e w1 ⟨rfl, b1⟩
    have BX := Lib.hid (BX.out.here b1)
    have B1 := Lib.hid (thence B0.out b1 (Nat.le_refl _))
    clear b1 B0
    obtain ⟨c0, c1, c2, c3, c4, c5⟩ := BX.out.six
    have ltBX := BX.out.lt
    go_wp2_with fail
    refine (PS.out _).mono ?_
    rintro e w2 ⟨rfl, b2⟩
    clear c0 c1 c2 c3 c4 c5 ltBX
    have BX := Lib.hid (BX.out.here b2)
    have ha2 : Below w2.heap.size w2 (w2.alloc (.cells #[.int .i64 S, .int .i64 K, .int .i64 (b / chunk % mem)] 30)) := (Below.refl _ _).alloc (Nat.le_refl _) _
    have BX := Lib.hid (BX.out.here ha2)
    have BA : Hid (Bx (w2.alloc (.cells #[.int .i64 S, .int .i64 K, .int .i64 (b / chunk % mem)] 30)) w2.heap.size [.int .i64 S, .int .i64 K, .int .i64 (b / chunk % mem)]) := Bx.new w2 [.int .i64 S, .int .i64 K, .int .i64 (b / chunk % mem)] 30
    have B2 := Lib.hid (thence B1.out (thence b2 ha2 (Nat.le_refl _)) (Nat.le_refl _))
    clear ha2
    clear b2 B1
    obtain ⟨c0, c1, c2, c3, c4, c5⟩ := BX.out.six
    have ltBX := BX.out.lt
    obtain ⟨a0, a1, a2⟩ := BA.out.three
    have ltBA := BA.out.lt
    go_wp2_with fail
    go_quiet (fail)
    skip
    have BX := Lib.hid (BX.out.here (below_drewN (Below.refl _ _) nq))
    have BA := Lib.hid (BA.out.here (below_drewN (Below.refl _ _) nq))
    have B2 := Lib.hid (below_drewN B2.out nq)
    go_wp2_with fail
    refine (PT.out _).mono ?_
    rintro e w3 ⟨rfl, b3⟩
    clear c0 c1 c2 c3 c4 c5 a0 a1 a2 ltBX ltBA
    have BX := Lib.hid (BX.out.here b3)
    have BA := Lib.hid (BA.out.here b3)
    have ha3 : Below w3.heap.size w3 (w3.alloc (.cells #[.int .i64 0, .int .i64 0, .int .i64 0] 30)) := (Below.refl _ _).alloc (Nat.le_refl _) _
    have BX := Lib.hid (BX.out.here ha3)
    have BA := Lib.hid (BA.out.here ha3)
    have BT : Hid (Bx (w3.alloc (.cells #[.int .i64 0, .int .i64 0, .int .i64 0] 30)) w3.heap.size [.int .i64 0, .int .i64 0, .int .i64 0]) := Bx.new w3 [.int .i64 0, .int .i64 0, .int .i64 0] 30
    have B3 := Lib.hid (thence B2.out (thence b3 ha3 (Nat.le_refl _)) (Nat.le_refl _))
    clear ha3
    clear b3 B2
    obtain ⟨c0, c1, c2, c3, c4, c5⟩ := BX.out.six
    have ltBX := BX.out.lt
    obtain ⟨a0, a1, a2⟩ := BA.out.three
    have ltBA := BA.out.lt
    obtain ⟨d0, d1, d2⟩ := BT.out.three
    have ltBT := BT.out.lt
    go_wp2_with fail
    refine (JB.out _).mono ?_
    rintro e w4 ⟨rfl, b4⟩
    clear c0 c1 c2 c3 c4 c5 a0 a1 a2 d0 d1 d2 ltBX ltBA ltBT
    have BX := Lib.hid (BX.out.here b4)
    have BA := Lib.hid (BA.out.here b4)
    have BT := Lib.hid (BT.out.here b4)
    have B4 := Lib.hid (thence B3.out b4 (Nat.le_refl _))
    clear b4 B3
    obtain ⟨c0, c1, c2, c3, c4, c5⟩ := BX.out.six
    have ltBX := BX.out.lt
    obtain ⟨a0, a1, a2⟩ := BA.out.three
    have ltBA := BA.out.lt
    obtain ⟨d0, d1, d2⟩ := BT.out.three
    have ltBT := BT.out.lt
    go_wp2_with fail
    go_ret
    exact ⟨rfl, B4.out⟩
  by_cases H3 : (b + 1) % chunk = 0
  · skip
    have HA := ask_iff.1 (H1 : ask ⟨id, mem, chunk, rows, log, heads⟩ b (chunk * rows * (mem - 1)) 0 1 = 0)
    obtain ⟨k0, k1, k2, k3, k4, k5⟩ := cfg_facts HA.1
    dsimp only at k0 k1 k2 k3 k4 k5
    have SB := TK.spot_bd HA.1 HA.2.1 HA.2.2.1
    have SR := TK.spot_row HA.1 (b := b)
    dsimp only at SR SB
    have cb := TK.chunk_bd HA.1 HA.2.1 HA.2.2.1
    dsimp only at cb
    obtain ⟨cb0, cb1, -, -⟩ := cb
    obtain ⟨sb0, sb1, sb2, sb3, sb4, sb5⟩ := SB
    have sb6 : TK.spotStripe ⟨id, mem, chunk, rows, log, heads⟩ b ≤ 63 := by have := (SK.stripes_bd HA.1).2; omega
    obtain ⟨rb0, rb1⟩ := TK.rem_bd (a := b) (b := chunk) (by omega)
    have gb0 : 0 ≤ b := HA.2.1
    have gb1 : b ≤ 960 := by have h1 := (SK.blocks_bd HA.1).2; have h2 := HA.2.2.1; unfold Cfg.blocks Cfg.stripes at h1; dsimp only at h1; omega
    have PS : Hid (∀ w1, Calls Try.prog 12 #[.agg #[.int .u32 (id : Int), .int .i64 mem, .int .i64 chunk, .int .i64 rows, .int .i64 log, .int .i64 heads], .int .i64 b] w1 fun e w' => e = .returned (.tuple #[.agg #[.int .i64 (TK.spotStripe ⟨id, mem, chunk, rows, log, heads⟩ b), .int .i64 (TK.spotSlot ⟨id, mem, chunk, rows, log, heads⟩ b), .int .i64 (b / chunk % mem)], .int .i64 0]) ∧ Below w1.heap.size w1 w') := fun w1 => by
      have := I.spot id mem chunk rows log heads b w1
      have hq : ask ⟨id, mem, chunk, rows, log, heads⟩ b (chunk * rows * (mem - 1)) 0 1 = 0 := ask_iff.2 HA
      simp only [hq, if_pos] at this

      exact this
    have f1 : ((b / chunk % mem : Int) != b / chunk % mem) = false := by rw [bne_self_eq_false]
    have f2 : ((TK.spotStripe ⟨id, mem, chunk, rows, log, heads⟩ b % chunk : Int) != b % chunk) = false := by rw [SR.2, bne_self_eq_false]
    have d1 : 0 ≤ TK.spotStripe ⟨id, mem, chunk, rows, log, heads⟩ b % chunk := by rw [SR.2]; exact rb0
    have HN := ask_iff.1 (H2 : ask ⟨id, mem, chunk, rows, log, heads⟩ (b + 1) (chunk * rows * (mem - 1)) 0 1 = 0)
    have NN := TK.next_new HA.1 H3
    have PT : Hid (∀ w1, Calls Try.prog 12 #[.agg #[.int .u32 (id : Int), .int .i64 mem, .int .i64 chunk, .int .i64 rows, .int .i64 log, .int .i64 heads], .int .i64 (b + 1)] w1 fun e w' => e = .returned (.tuple #[.agg #[.int .i64 (TK.spotStripe ⟨id, mem, chunk, rows, log, heads⟩ (b + 1)), .int .i64 (TK.spotSlot ⟨id, mem, chunk, rows, log, heads⟩ (b + 1)), .int .i64 ((b / chunk + 1) % mem)], .int .i64 0]) ∧ Below w1.heap.size w1 w') := fun w1 => by
      have := I.spot id mem chunk rows log heads (b + 1) w1
      have hq : ask ⟨id, mem, chunk, rows, log, heads⟩ (b + 1) (chunk * rows * (mem - 1)) 0 1 = 0 := ask_iff.2 HN
      simp only [hq, if_pos] at this
      rw [NN] at this
      unfold TK.spotMember at this
      dsimp only at this
      rw [Int.emod_add_emod] at this
      exact this
    generalize TK.spotStripe ⟨id, mem, chunk, rows, log, heads⟩ (b + 1) = S2 at *
    generalize TK.spotSlot ⟨id, mem, chunk, rows, log, heads⟩ (b + 1) = K2 at *
    have f3 : ((b + 1) % chunk == 0) = true := beq_iff_eq.2 H3
    have f4 : (((b / chunk + 1) % mem : Int) == (b / chunk + 1) % mem) = true := beq_iff_eq.2 rfl
    have mb := TK.rem_bd (a := b / chunk) (b := mem) (by omega)
    obtain ⟨mb0, mb1⟩ := mb
    have mc := TK.rem_bd (a := b / chunk + 1) (b := mem) (by omega)
    obtain ⟨mc0, mc1⟩ := mc
    clear NN
    clear HN
    clear HA SR
    generalize TK.spotStripe ⟨id, mem, chunk, rows, log, heads⟩ b = S at *
    generalize TK.spotSlot ⟨id, mem, chunk, rows, log, heads⟩ b = K at *
    clear H1 H2 H3
    go_enter Try.func6, Try.ntmps6
    go_wp2_with fail
    refine (CA.out _).mono ?_
    rintro e w1 ⟨rfl, b1⟩
    have BX := Lib.hid (BX.out.here b1)
    have B1 := Lib.hid (thence B0.out b1 (Nat.le_refl _))
    clear b1 B0
    obtain ⟨c0, c1, c2, c3, c4, c5⟩ := BX.out.six
    have ltBX := BX.out.lt
    go_wp2_with fail
    refine (PS.out _).mono ?_
    rintro e w2 ⟨rfl, b2⟩
    clear c0 c1 c2 c3 c4 c5 ltBX
    have BX := Lib.hid (BX.out.here b2)
    have ha2 : Below w2.heap.size w2 (w2.alloc (.cells #[.int .i64 S, .int .i64 K, .int .i64 (b / chunk % mem)] 30)) := (Below.refl _ _).alloc (Nat.le_refl _) _
    have BX := Lib.hid (BX.out.here ha2)
    have BA : Hid (Bx (w2.alloc (.cells #[.int .i64 S, .int .i64 K, .int .i64 (b / chunk % mem)] 30)) w2.heap.size [.int .i64 S, .int .i64 K, .int .i64 (b / chunk % mem)]) := Bx.new w2 [.int .i64 S, .int .i64 K, .int .i64 (b / chunk % mem)] 30
    have B2 := Lib.hid (thence B1.out (thence b2 ha2 (Nat.le_refl _)) (Nat.le_refl _))
    clear ha2
    clear b2 B1
    obtain ⟨c0, c1, c2, c3, c4, c5⟩ := BX.out.six
    have ltBX := BX.out.lt
    obtain ⟨a0, a1, a2⟩ := BA.out.three
    have ltBA := BA.out.lt
    go_wp2_with fail
    go_quiet (fail)
    skip
    have BX := Lib.hid (BX.out.here (below_drewN (Below.refl _ _) nq))
    have BA := Lib.hid (BA.out.here (below_drewN (Below.refl _ _) nq))
    have B2 := Lib.hid (below_drewN B2.out nq)
    go_wp2_with fail
    refine (PT.out _).mono ?_
    rintro e w3 ⟨rfl, b3⟩
    clear c0 c1 c2 c3 c4 c5 a0 a1 a2 ltBX ltBA
    have BX := Lib.hid (BX.out.here b3)
    have BA := Lib.hid (BA.out.here b3)
    have ha3 : Below w3.heap.size w3 (w3.alloc (.cells #[.int .i64 S2, .int .i64 K2, .int .i64 ((b / chunk + 1) % mem)] 30)) := (Below.refl _ _).alloc (Nat.le_refl _) _
    have BX := Lib.hid (BX.out.here ha3)
    have BA := Lib.hid (BA.out.here ha3)
    have BT : Hid (Bx (w3.alloc (.cells #[.int .i64 S2, .int .i64 K2, .int .i64 ((b / chunk + 1) % mem)] 30)) w3.heap.size [.int .i64 S2, .int .i64 K2, .int .i64 ((b / chunk + 1) % mem)]) := Bx.new w3 [.int .i64 S2, .int .i64 K2, .int .i64 ((b / chunk + 1) % mem)] 30
    have B3 := Lib.hid (thence B2.out (thence b3 ha3 (Nat.le_refl _)) (Nat.le_refl _))
    clear ha3
    clear b3 B2
    obtain ⟨c0, c1, c2, c3, c4, c5⟩ := BX.out.six
    have ltBX := BX.out.lt
    obtain ⟨a0, a1, a2⟩ := BA.out.three
    have ltBA := BA.out.lt
    obtain ⟨d0, d1, d2⟩ := BT.out.three
    have ltBT := BT.out.lt
    go_wp2_with fail
    go_quiet (fail)
    skip
    have BX := Lib.hid (BX.out.here (below_drewN (Below.refl _ _) nq))
    have BA := Lib.hid (BA.out.here (below_drewN (Below.refl _ _) nq))
    have BT := Lib.hid (BT.out.here (below_drewN (Below.refl _ _) nq))
    have B3 := Lib.hid (below_drewN B3.out nq)
    go_wp2_with fail
    go_ret
    exact ⟨rfl, B3.out⟩
  · skip
    have HA := ask_iff.1 (H1 : ask ⟨id, mem, chunk, rows, log, heads⟩ b (chunk * rows * (mem - 1)) 0 1 = 0)
    obtain ⟨k0, k1, k2, k3, k4, k5⟩ := cfg_facts HA.1
    dsimp only at k0 k1 k2 k3 k4 k5
    have SB := TK.spot_bd HA.1 HA.2.1 HA.2.2.1
    have SR := TK.spot_row HA.1 (b := b)
    dsimp only at SR SB
    have cb := TK.chunk_bd HA.1 HA.2.1 HA.2.2.1
    dsimp only at cb
    obtain ⟨cb0, cb1, -, -⟩ := cb
    obtain ⟨sb0, sb1, sb2, sb3, sb4, sb5⟩ := SB
    have sb6 : TK.spotStripe ⟨id, mem, chunk, rows, log, heads⟩ b ≤ 63 := by have := (SK.stripes_bd HA.1).2; omega
    obtain ⟨rb0, rb1⟩ := TK.rem_bd (a := b) (b := chunk) (by omega)
    have gb0 : 0 ≤ b := HA.2.1
    have gb1 : b ≤ 960 := by have h1 := (SK.blocks_bd HA.1).2; have h2 := HA.2.2.1; unfold Cfg.blocks Cfg.stripes at h1; dsimp only at h1; omega
    have PS : Hid (∀ w1, Calls Try.prog 12 #[.agg #[.int .u32 (id : Int), .int .i64 mem, .int .i64 chunk, .int .i64 rows, .int .i64 log, .int .i64 heads], .int .i64 b] w1 fun e w' => e = .returned (.tuple #[.agg #[.int .i64 (TK.spotStripe ⟨id, mem, chunk, rows, log, heads⟩ b), .int .i64 (TK.spotSlot ⟨id, mem, chunk, rows, log, heads⟩ b), .int .i64 (b / chunk % mem)], .int .i64 0]) ∧ Below w1.heap.size w1 w') := fun w1 => by
      have := I.spot id mem chunk rows log heads b w1
      have hq : ask ⟨id, mem, chunk, rows, log, heads⟩ b (chunk * rows * (mem - 1)) 0 1 = 0 := ask_iff.2 HA
      simp only [hq, if_pos] at this

      exact this
    have f1 : ((b / chunk % mem : Int) != b / chunk % mem) = false := by rw [bne_self_eq_false]
    have f2 : ((TK.spotStripe ⟨id, mem, chunk, rows, log, heads⟩ b % chunk : Int) != b % chunk) = false := by rw [SR.2, bne_self_eq_false]
    have d1 : 0 ≤ TK.spotStripe ⟨id, mem, chunk, rows, log, heads⟩ b % chunk := by rw [SR.2]; exact rb0
    have HN := ask_iff.1 (H2 : ask ⟨id, mem, chunk, rows, log, heads⟩ (b + 1) (chunk * rows * (mem - 1)) 0 1 = 0)
    have NS := TK.next_same HA.1 H3
    have PT : Hid (∀ w1, Calls Try.prog 12 #[.agg #[.int .u32 (id : Int), .int .i64 mem, .int .i64 chunk, .int .i64 rows, .int .i64 log, .int .i64 heads], .int .i64 (b + 1)] w1 fun e w' => e = .returned (.tuple #[.agg #[.int .i64 (TK.spotStripe ⟨id, mem, chunk, rows, log, heads⟩ b + 1), .int .i64 (TK.spotSlot ⟨id, mem, chunk, rows, log, heads⟩ b), .int .i64 (b / chunk % mem)], .int .i64 0]) ∧ Below w1.heap.size w1 w') := fun w1 => by
      have := I.spot id mem chunk rows log heads (b + 1) w1
      have hq : ask ⟨id, mem, chunk, rows, log, heads⟩ (b + 1) (chunk * rows * (mem - 1)) 0 1 = 0 := ask_iff.2 HN
      simp only [hq, if_pos] at this
      rw [NS.1, NS.2.1, NS.2.2] at this
      exact this
    have f3 : ((b + 1) % chunk == 0) = false := beq_eq_false_iff_ne.2 H3
    clear NS
    clear HN
    clear HA SR
    generalize TK.spotStripe ⟨id, mem, chunk, rows, log, heads⟩ b = S at *
    generalize TK.spotSlot ⟨id, mem, chunk, rows, log, heads⟩ b = K at *
    clear H1 H2 H3
    go_enter Try.func6, Try.ntmps6
    go_wp2_with fail
    refine (CA.out _).mono ?_
    rintro e w1 ⟨rfl, b1⟩
    have BX := Lib.hid (BX.out.here b1)
    have B1 := Lib.hid (thence B0.out b1 (Nat.le_refl _))
    clear b1 B0
    obtain ⟨c0, c1, c2, c3, c4, c5⟩ := BX.out.six
    have ltBX := BX.out.lt
    go_wp2_with fail
    refine (PS.out _).mono ?_
    rintro e w2 ⟨rfl, b2⟩
    clear c0 c1 c2 c3 c4 c5 ltBX
    have BX := Lib.hid (BX.out.here b2)
    have ha2 : Below w2.heap.size w2 (w2.alloc (.cells #[.int .i64 S, .int .i64 K, .int .i64 (b / chunk % mem)] 30)) := (Below.refl _ _).alloc (Nat.le_refl _) _
    have BX := Lib.hid (BX.out.here ha2)
    have BA : Hid (Bx (w2.alloc (.cells #[.int .i64 S, .int .i64 K, .int .i64 (b / chunk % mem)] 30)) w2.heap.size [.int .i64 S, .int .i64 K, .int .i64 (b / chunk % mem)]) := Bx.new w2 [.int .i64 S, .int .i64 K, .int .i64 (b / chunk % mem)] 30
    have B2 := Lib.hid (thence B1.out (thence b2 ha2 (Nat.le_refl _)) (Nat.le_refl _))
    clear ha2
    clear b2 B1
    obtain ⟨c0, c1, c2, c3, c4, c5⟩ := BX.out.six
    have ltBX := BX.out.lt
    obtain ⟨a0, a1, a2⟩ := BA.out.three
    have ltBA := BA.out.lt
    go_wp2_with fail
    go_quiet (fail)
    skip
    have BX := Lib.hid (BX.out.here (below_drewN (Below.refl _ _) nq))
    have BA := Lib.hid (BA.out.here (below_drewN (Below.refl _ _) nq))
    have B2 := Lib.hid (below_drewN B2.out nq)
    go_wp2_with fail
    refine (PT.out _).mono ?_
    rintro e w3 ⟨rfl, b3⟩
    clear c0 c1 c2 c3 c4 c5 a0 a1 a2 ltBX ltBA
    have BX := Lib.hid (BX.out.here b3)
    have BA := Lib.hid (BA.out.here b3)
    have ha3 : Below w3.heap.size w3 (w3.alloc (.cells #[.int .i64 (S + 1), .int .i64 K, .int .i64 (b / chunk % mem)] 30)) := (Below.refl _ _).alloc (Nat.le_refl _) _
    have BX := Lib.hid (BX.out.here ha3)
    have BA := Lib.hid (BA.out.here ha3)
    have BT : Hid (Bx (w3.alloc (.cells #[.int .i64 (S + 1), .int .i64 K, .int .i64 (b / chunk % mem)] 30)) w3.heap.size [.int .i64 (S + 1), .int .i64 K, .int .i64 (b / chunk % mem)]) := Bx.new w3 [.int .i64 (S + 1), .int .i64 K, .int .i64 (b / chunk % mem)] 30
    have B3 := Lib.hid (thence B2.out (thence b3 ha3 (Nat.le_refl _)) (Nat.le_refl _))
    clear ha3
    clear b3 B2
    obtain ⟨c0, c1, c2, c3, c4, c5⟩ := BX.out.six
    have ltBX := BX.out.lt
    obtain ⟨a0, a1, a2⟩ := BA.out.three
    have ltBA := BA.out.lt
    obtain ⟨d0, d1, d2⟩ := BT.out.three
    have ltBT := BT.out.lt
    go_wp2_with fail
    go_ret
    exact ⟨rfl, B3.out⟩

set_option maxHeartbeats 4000000 in
theorem turnRound_walk (I : TurnIs) (id : Nat) (mem chunk rows log heads : Int) (s : Int) (w : World) :
    Calls Try.prog 7 #[.agg #[.int .u32 (id : Int), .int .i64 mem, .int .i64 chunk, .int .i64 rows, .int .i64 log, .int .i64 heads], .int .i64 s] w fun e w' => e = .returned (.bool true) ∧ Below w.heap.size w w' := by
  have B0 : Hid (Below w.heap.size w (w.alloc (.cells #[.int .u32 (id : Int), .int .i64 mem, .int .i64 chunk, .int .i64 rows, .int .i64 log, .int .i64 heads] 27))) := (Below.refl _ _).alloc (Nat.le_refl _) _
  have BX : Hid (Bx (w.alloc (.cells #[.int .u32 (id : Int), .int .i64 mem, .int .i64 chunk, .int .i64 rows, .int .i64 log, .int .i64 heads] 27)) w.heap.size [.int .u32 (id : Int), .int .i64 mem, .int .i64 chunk, .int .i64 rows, .int .i64 log, .int .i64 heads]) := Bx.new w [.int .u32 (id : Int), .int .i64 mem, .int .i64 chunk, .int .i64 rows, .int .i64 log, .int .i64 heads] 27
  have CA := Lib.hid (alive7_any I)
  by_cases H1 : ask ⟨id, mem, chunk, rows, log, heads⟩ s (chunk * rows) 0 1 = 0
  case neg =>
    obtain ⟨q1, hq1⟩ : ∃ q1, ask ⟨id, mem, chunk, rows, log, heads⟩ s (chunk * rows) 0 1 = q1 := ⟨_, rfl⟩
    have Hq1 := Lib.hid hq1
    have Nq1 := Lib.hid (show ¬ q1 = 0 by rw [← hq1]; exact H1)
    have PP : Hid (∀ w1, Calls Try.prog 16 #[.agg #[.int .u32 (id : Int), .int .i64 mem, .int .i64 chunk, .int .i64 rows, .int .i64 log, .int .i64 heads], .int .i64 s] w1 fun e w' => e = .returned (.tuple #[.int .i64 0, .int .i64 (q1 : Int)]) ∧ Below w1.heap.size w1 w') := fun w1 => by
      have := I.parity id mem chunk rows log heads s w1
      rw [Hq1.out] at this
      simp only [if_neg Nq1.out] at this
      exact this
    have tq10 : ((q1 : Int) == 0) = false := beq_eq_false_iff_ne.2 (by have := Nq1.out; omega)
    have tq11 : ((q1 : Int) != 0) = true := by rw [bne, tq10]; rfl
    clear hq1 H1
    go_enter Try.func7, Try.ntmps7
    go_wp2_with fail
    refine (CA.out _).mono ?_
    rintro e w1 ⟨rfl, b1⟩
    have BX := Lib.hid (BX.out.here b1)
    have B1 := Lib.hid (thence B0.out b1 (Nat.le_refl _))
    clear b1 B0
    obtain ⟨c0, c1, c2, c3, c4, c5⟩ := BX.out.six
    have ltBX := BX.out.lt
    go_wp2_with fail
    refine (PP.out _).mono ?_
    rintro e w2 ⟨rfl, b2⟩
    clear c0 c1 c2 c3 c4 c5 ltBX
    have BX := Lib.hid (BX.out.here b2)
    have B2 := Lib.hid (thence B1.out b2 (Nat.le_refl _))
    clear b2 B1
    obtain ⟨c0, c1, c2, c3, c4, c5⟩ := BX.out.six
    have ltBX := BX.out.lt
    go_wp2_with fail
    go_ret
    exact ⟨rfl, B2.out⟩
  have HA := ask_iff.1 (H1 : ask ⟨id, mem, chunk, rows, log, heads⟩ s (chunk * rows) 0 1 = 0)
  obtain ⟨k0, k1, k2, k3, k4, k5⟩ := cfg_facts HA.1
  dsimp only at k0 k1 k2 k3 k4 k5
  have gs0 : 0 ≤ s := HA.2.1
  have gs1 : s ≤ 64 := by have h1 := (SK.stripes_bd HA.1).2; have h2 := HA.2.2.1; unfold Cfg.stripes at h1; dsimp only at h1; omega
  have PP : Hid (∀ w1, Calls Try.prog 16 #[.agg #[.int .u32 (id : Int), .int .i64 mem, .int .i64 chunk, .int .i64 rows, .int .i64 log, .int .i64 heads], .int .i64 s] w1 fun e w' => e = .returned (.tuple #[.int .i64 (TK.parityOf ⟨id, mem, chunk, rows, log, heads⟩ s), .int .i64 0]) ∧ Below w1.heap.size w1 w') := fun w1 => by
    have := I.parity id mem chunk rows log heads s w1
    have hq : ask ⟨id, mem, chunk, rows, log, heads⟩ s (chunk * rows) 0 1 = 0 := ask_iff.2 HA
    simp only [hq, if_pos] at this

    exact this
  have PR := TK.parity_row HA.1 (s := s) gs0
  dsimp only at PR
  obtain ⟨pr0, pr1, pr2⟩ := PR
  have PF : Hid (∀ w1, Calls Try.prog 16 #[.agg #[.int .u32 (id : Int), .int .i64 mem, .int .i64 chunk, .int .i64 rows, .int .i64 log, .int .i64 heads], .int .i64 (s / chunk * chunk)] w1 fun e w' => e = .returned (.tuple #[.int .i64 (TK.parityOf ⟨id, mem, chunk, rows, log, heads⟩ s), .int .i64 0]) ∧ Below w1.heap.size w1 w') := fun w1 => by
    have := I.parity id mem chunk rows log heads (s / chunk * chunk) w1
    have hq : ask ⟨id, mem, chunk, rows, log, heads⟩ (s / chunk * chunk) (chunk * rows) 0 1 = 0 := ask_iff.2 ⟨HA.1, pr1, by have h2 := HA.2.2.1; omega, Int.le_refl _, by decide⟩
    simp only [hq, if_pos] at this
    rw [pr0] at this
    exact this
  have PO : Hid (∀ i : Int, (TK.parityOf ⟨id, mem, chunk, rows, log, heads⟩ (s + i * chunk) = TK.parityOf ⟨id, mem, chunk, rows, log, heads⟩ s) ↔ i % mem = 0) := fun i => TK.parity_on HA.1
  have HM := Lib.hid HA.1
  have vs0 : 0 ≤ s / chunk := TK.quo_nn (by omega) gs0
  clear HA pr0 H1
  generalize TK.parityOf ⟨id, mem, chunk, rows, log, heads⟩ s = p at *
  go_enter Try.func7, Try.ntmps7
  go_wp2_with fail
  refine (CA.out _).mono ?_
  rintro e w1 ⟨rfl, b1⟩
  have BX := Lib.hid (BX.out.here b1)
  have B1 := Lib.hid (thence B0.out b1 (Nat.le_refl _))
  clear b1 B0
  obtain ⟨c0, c1, c2, c3, c4, c5⟩ := BX.out.six
  have ltBX := BX.out.lt
  go_wp2_with fail
  refine (PP.out _).mono ?_
  rintro e w2 ⟨rfl, b2⟩
  clear c0 c1 c2 c3 c4 c5 ltBX
  have BX := Lib.hid (BX.out.here b2)
  have B2 := Lib.hid (thence B1.out b2 (Nat.le_refl _))
  clear b2 B1
  obtain ⟨c0, c1, c2, c3, c4, c5⟩ := BX.out.six
  have ltBX := BX.out.lt
  go_wp2_with fail
  clear c0 c1 c2 c3 c4 c5 ltBX
  go_loopw [8] (fun x wr => ∃ i : Nat, 1 ≤ i ∧ i ≤ 16 ∧ x = .int .i64 i ∧ Below w2.heap.size w2 wr) (fun x _ => 16 - (intOf x).toNat)
  case atStart => exact ⟨1, by omega, by omega, rfl, Below.refl _ _⟩
  case round =>
    obtain ⟨i, hi1, hi2, rfl, hb⟩ := hrel
    have HB := Lib.hid (thence B2.out hb (Nat.le_refl _))
    have HBR := Lib.hid hb
    have BR := Lib.hid (BX.out.here hb)
    clear hb
    obtain ⟨c0, c1, c2, c3, c4, c5⟩ := BR.out.six
    have ltBX := BR.out.lt
    by_cases hlt : (i : Int) < 16
    · have v0 : 0 ≤ (i : Int) * chunk := Int.mul_nonneg (by omega) (by omega)
      have v1 : (i : Int) * chunk ≤ 16 * 8 := Int.mul_le_mul (by omega) k3 (by omega) (by omega)
      by_cases H2 : ask ⟨id, mem, chunk, rows, log, heads⟩ (s + (i : Int) * chunk) (chunk * rows) 0 1 = 0
      · have HA := ask_iff.1 H2
        have PI : Hid (∀ w1, Calls Try.prog 16 #[.agg #[.int .u32 (id : Int), .int .i64 mem, .int .i64 chunk, .int .i64 rows, .int .i64 log, .int .i64 heads], .int .i64 (s + (i : Int) * chunk)] w1 fun e w' => e = .returned (.tuple #[.int .i64 (TK.parityOf ⟨id, mem, chunk, rows, log, heads⟩ (s + (i : Int) * chunk)), .int .i64 0]) ∧ Below w1.heap.size w1 w') := fun w1 => by
          have := I.parity id mem chunk rows log heads (s + (i : Int) * chunk) w1
          have hq : ask ⟨id, mem, chunk, rows, log, heads⟩ (s + (i : Int) * chunk) (chunk * rows) 0 1 = 0 := ask_iff.2 HA
          simp only [hq, if_pos] at this

          exact this
        by_cases H3 : (i : Int) % mem = 0
        all_goals
          have HO := Lib.hid (PO.out (i : Int))
          clear H2 HA
        · have e1 := HO.out.2 H3
          have f1 : (TK.parityOf ⟨id, mem, chunk, rows, log, heads⟩ (s + (i : Int) * chunk) == p) = true := beq_iff_eq.2 e1
          have f2 : ((i : Int) % mem == 0) = true := beq_iff_eq.2 H3
          have f3 : (TK.parityOf ⟨id, mem, chunk, rows, log, heads⟩ (s + (i : Int) * chunk) == p) = (((i : Int) % mem == 0)) := by rw [f1, f2]
          clear e1 H3 f3
          generalize TK.parityOf ⟨id, mem, chunk, rows, log, heads⟩ (s + (i : Int) * chunk) = pi at *
          go_wp2_with fail
          refine (PI.out _).mono ?_
          rintro e w5 ⟨rfl, b5⟩
          have B5 := Lib.hid (thence HBR.out b5 (Nat.le_refl _))
          have BR := Lib.hid (BR.out.here b5)
          clear b5 c0 c1 c2 c3 c4 c5 ltBX
          obtain ⟨c0, c1, c2, c3, c4, c5⟩ := BR.out.six
          have ltBX := BR.out.lt
          go_wp2_with fail
          go_roundw
          case rel => exact ⟨i + 1, by omega, by omega, by go_num, B5.out⟩
          case measure => simp [intOf]; omega
        · have f1 : (TK.parityOf ⟨id, mem, chunk, rows, log, heads⟩ (s + (i : Int) * chunk) == p) = false := beq_eq_false_iff_ne.2 (fun e => H3 (HO.out.1 e))
          have f2 : ((i : Int) % mem == 0) = false := beq_eq_false_iff_ne.2 H3
          clear H3
          generalize TK.parityOf ⟨id, mem, chunk, rows, log, heads⟩ (s + (i : Int) * chunk) = pi at *
          go_wp2_with fail
          refine (PI.out _).mono ?_
          rintro e w5 ⟨rfl, b5⟩
          have B5 := Lib.hid (thence HBR.out b5 (Nat.le_refl _))
          have BR := Lib.hid (BR.out.here b5)
          clear b5 c0 c1 c2 c3 c4 c5 ltBX
          obtain ⟨c0, c1, c2, c3, c4, c5⟩ := BR.out.six
          have ltBX := BR.out.lt
          go_wp2_with fail
          go_roundw
          case rel => exact ⟨i + 1, by omega, by omega, by go_num, B5.out⟩
          case measure => simp [intOf]; omega
      · obtain ⟨q2, hq2⟩ : ∃ q2, ask ⟨id, mem, chunk, rows, log, heads⟩ (s + (i : Int) * chunk) (chunk * rows) 0 1 = q2 := ⟨_, rfl⟩
        have Hq2 := Lib.hid hq2
        have Nq2 := Lib.hid (show ¬ q2 = 0 by rw [← hq2]; exact H2)
        have PI : Hid (∀ w1, Calls Try.prog 16 #[.agg #[.int .u32 (id : Int), .int .i64 mem, .int .i64 chunk, .int .i64 rows, .int .i64 log, .int .i64 heads], .int .i64 (s + (i : Int) * chunk)] w1 fun e w' => e = .returned (.tuple #[.int .i64 0, .int .i64 (q2 : Int)]) ∧ Below w1.heap.size w1 w') := fun w1 => by
          have := I.parity id mem chunk rows log heads (s + (i : Int) * chunk) w1
          rw [Hq2.out] at this
          simp only [if_neg Nq2.out] at this
          exact this
        have tq20 : ((q2 : Int) == 0) = false := beq_eq_false_iff_ne.2 (by have := Nq2.out; omega)
        have tq21 : ((q2 : Int) != 0) = true := by rw [bne, tq20]; rfl
        clear hq2 H2
        go_wp2_with fail
        refine (PI.out _).mono ?_
        rintro e w5 ⟨rfl, b5⟩
        have B5 := Lib.hid (thence HB.out b5 (Nat.le_refl _))
        have BR := Lib.hid (BR.out.here b5)
        clear b5 c0 c1 c2 c3 c4 c5 ltBX
        obtain ⟨c0, c1, c2, c3, c4, c5⟩ := BR.out.six
        have ltBX := BR.out.lt
        go_wp2_with fail
        have s1 : IntKind.i64.wrap (s / chunk * chunk) = s / chunk * chunk := IntWalk.i64_in _ (by omega)
        have vs1 : s / chunk ≤ s := Int.ediv_le_self _ gs0
        have s2 : IntKind.i64.wrap (s / chunk) = s / chunk := IntWalk.i64_in _ (by omega)
        have s3 : s.tdiv chunk = s / chunk := Int.tdiv_eq_ediv_of_nonneg gs0
        have nz : ¬ chunk = 0 := by omega
        refine wp_region_noPanic ?_
        refine PX.wp_region_y (fun w' => Below w5.heap.size w5 w') [] (by kernel_rfl) (Below.refl _ _).drew (fun hHeld => ?_)
        refine PX.wpAnyY_take (i := 0) (oi := ?_) (v := ?_) ?_ (by kernel_rfl) (by kernel_rfl) (by kernel_rfl) (by kernel_rfl) (by kernel_rfl) (fun _ _ _ h => h) (Or.inl ⟨?_, ?_⟩) (by assumption) ?_
        rotate_left 2
        · simp only [List.getElem?_toArray, List.getElem?_cons_succ, List.getElem?_cons_zero]; rfl
        · rfl
        · intro w hSw; (try dsimp only at hSw); have hC := fun (b o : Nat) (h : b < w5.heap.size) => Below.cell hSw (p := ⟨b, o, none⟩) h; go_simp <;> with_reducible rfl
        (try simp only [Act.put, List.setIfInBounds_toArray, List.set_cons_zero, List.set_cons_succ])
        refine PX.wpAnyY_take (i := 1) (oi := ?_) (v := ?_) ?_ (by kernel_rfl) (by kernel_rfl) (by kernel_rfl) (by kernel_rfl) (by kernel_rfl) (fun _ _ _ h => h) (Or.inl ⟨?_, ?_⟩) (by assumption) ?_
        rotate_left 2
        · simp only [List.getElem?_toArray, List.getElem?_cons_succ, List.getElem?_cons_zero]; rfl
        · rfl
        · intro w hSw; (try dsimp only at hSw); go_simp <;> with_reducible rfl
        (try simp only [Act.put, List.setIfInBounds_toArray, List.set_cons_zero, List.set_cons_succ])
        refine PX.wpAnyY_take (i := 2) (oi := ?_) (v := ?_) ?_ (by kernel_rfl) (by kernel_rfl) (by kernel_rfl) (by kernel_rfl) (by kernel_rfl) (fun _ _ _ h => h) (Or.inl ⟨?_, ?_⟩) (by assumption) ?_
        rotate_left 2
        · simp only [List.getElem?_toArray, List.getElem?_cons_succ, List.getElem?_cons_zero]; rfl
        · rfl
        · intro w hSw; (try dsimp only at hSw); go_simp <;> with_reducible rfl
        (try simp only [Act.put, List.setIfInBounds_toArray, List.set_cons_zero, List.set_cons_succ])
        refine PX.wpAnyY_take (i := 3) (oi := ?_) (v := ?_) ?_ (by kernel_rfl) (by kernel_rfl) (by kernel_rfl) (by kernel_rfl) (by kernel_rfl) (fun _ _ _ h => h) (Or.inl ⟨?_, ?_⟩) (by assumption) ?_
        rotate_left 2
        · simp only [List.getElem?_toArray, List.getElem?_cons_succ, List.getElem?_cons_zero]; rfl
        · rfl
        · intro w hSw; (try dsimp only at hSw); have hC := fun (b o : Nat) (h : b < w5.heap.size) => Below.cell hSw (p := ⟨b, o, none⟩) h; go_simp <;> with_reducible rfl
        (try simp only [Act.put, List.setIfInBounds_toArray, List.set_cons_zero, List.set_cons_succ])
        refine PX.wpAnyY_take (i := 4) (oi := ?_) (v := ?_) ?_ (by kernel_rfl) (by kernel_rfl) (by kernel_rfl) (by kernel_rfl) (by kernel_rfl) (fun _ _ _ h => h) (Or.inl ⟨?_, ?_⟩) (by assumption) ?_
        rotate_left 2
        · simp only [List.getElem?_toArray, List.getElem?_cons_succ, List.getElem?_cons_zero]; rfl
        · rfl
        · intro w hSw; (try dsimp only at hSw); go_simp <;> with_reducible rfl
        (try simp only [Act.put, List.setIfInBounds_toArray, List.set_cons_zero, List.set_cons_succ])
        refine PX.wpAnyY_one (i := 5) (o := ?_) (by kernel_rfl) ?_ (fun Kq hKq => ?_)
        rotate_left
        · simp only [List.getElem?_toArray, List.getElem?_cons_succ, List.getElem?_cons_zero]; rfl
        go_simp
        refine hKq.out _ _ (hHeld) (fun hHeld => ?_)
        clear hKq Kq
        (try simp only [Act.put, List.setIfInBounds_toArray, List.set_cons_zero, List.set_cons_succ])
        refine PX.wpAnyY_take (i := 6) (oi := ?_) (v := ?_) ?_ (by kernel_rfl) (by kernel_rfl) (by kernel_rfl) (by kernel_rfl) (by kernel_rfl) (fun _ _ _ h => h) (Or.inl ⟨?_, ?_⟩) (by assumption) ?_
        rotate_left 2
        · simp only [List.getElem?_toArray, List.getElem?_cons_succ, List.getElem?_cons_zero]; rfl
        · rfl
        · intro w hSw; (try dsimp only at hSw); have hC := fun (b o : Nat) (h : b < w5.heap.size) => Below.cell hSw (p := ⟨b, o, none⟩) h; go_simp <;> with_reducible rfl
        (try simp only [Act.put, List.setIfInBounds_toArray, List.set_cons_zero, List.set_cons_succ])
        refine PX.wpAnyY_one (i := 7) (o := ?_) (by kernel_rfl) ?_ (fun Kq hKq => ?_)
        rotate_left
        · simp only [List.getElem?_toArray, List.getElem?_cons_succ, List.getElem?_cons_zero]; rfl
        go_simp
        refine hKq.out _ _ (hHeld) (fun hHeld => ?_)
        clear hKq Kq
        (try simp only [Act.put, List.setIfInBounds_toArray, List.set_cons_zero, List.set_cons_succ])
        refine PX.wpAnyY_one (i := 8) (o := ?_) (by kernel_rfl) ?_ (fun Kq hKq => ?_)
        rotate_left
        · simp only [List.getElem?_toArray, List.getElem?_cons_succ, List.getElem?_cons_zero]; rfl
        go_simp
        (with_reducible refine (PF.out _).mono ?_)
        rintro e w9 ⟨rfl, bqw9⟩
        have Hw9 := Lib.hid (thence hHeld bqw9 (Nat.le_refl _))
        clear bqw9
        go_wp2_with fail
        refine hKq.out _ _ (Hw9.out) (fun hHeld => ?_)
        clear hKq Kq
        (try simp only [Act.put, List.setIfInBounds_toArray, List.set_cons_zero, List.set_cons_succ])
        refine PX.wpAnyY_one (i := 9) (o := ?_) (by kernel_rfl) ?_ (fun Kq hKq => ?_)
        rotate_left
        · simp only [List.getElem?_toArray, List.getElem?_cons_succ, List.getElem?_cons_zero]; rfl
        go_simp
        refine hKq.out _ _ (hHeld) (fun hHeld => ?_)
        clear hKq Kq
        (try simp only [Act.put, List.setIfInBounds_toArray, List.set_cons_zero, List.set_cons_succ])
        refine PX.wpAnyY_take (i := 10) (oi := ?_) (v := ?_) ?_ (by kernel_rfl) (by kernel_rfl) (by kernel_rfl) (by kernel_rfl) (by kernel_rfl) (fun _ _ _ h => h) (Or.inl ⟨?_, ?_⟩) (by assumption) ?_
        rotate_left 2
        · simp only [List.getElem?_toArray, List.getElem?_cons_succ, List.getElem?_cons_zero]; rfl
        · rfl
        · intro w hSw; (try dsimp only at hSw); go_simp <;> with_reducible rfl
        (try simp only [Act.put, List.setIfInBounds_toArray, List.set_cons_zero, List.set_cons_succ])
        refine PX.wpAnyY_take (i := 11) (oi := ?_) (v := ?_) ?_ (by kernel_rfl) (by kernel_rfl) (by kernel_rfl) (by kernel_rfl) (by kernel_rfl) (fun _ _ _ h => h) (Or.inl ⟨?_, ?_⟩) (by assumption) ?_
        rotate_left 2
        · simp only [List.getElem?_toArray, List.getElem?_cons_succ, List.getElem?_cons_zero]; rfl
        · rfl
        · intro w hSw; (try dsimp only at hSw); go_simp <;> with_reducible rfl
        (try simp only [Act.put, List.setIfInBounds_toArray, List.set_cons_zero, List.set_cons_succ])
        refine PX.wpAnyY_one (i := 12) (o := ?_) (by kernel_rfl) ?_ (fun Kq hKq => ?_)
        rotate_left
        · simp only [List.getElem?_toArray, List.getElem?_cons_succ, List.getElem?_cons_zero]; rfl
        go_simp
        refine hKq.out _ _ (hHeld) (fun hHeld => ?_)
        clear hKq Kq
        (try simp only [Act.put, List.setIfInBounds_toArray, List.set_cons_zero, List.set_cons_succ])
        refine PX.wpAnyY_one (i := 13) (o := ?_) (by kernel_rfl) ?_ (fun Kq hKq => ?_)
        rotate_left
        · simp only [List.getElem?_toArray, List.getElem?_cons_succ, List.getElem?_cons_zero]; rfl
        go_simp
        refine hKq.out _ _ (hHeld) (fun hHeld => ?_)
        clear hKq Kq
        (try simp only [Act.put, List.setIfInBounds_toArray, List.set_cons_zero, List.set_cons_succ])
        refine PX.wpAnyY_done (by kernel_rfl) ?_ _
        refine NoPanic.normal ?_
        have HF := Lib.hid (thence B5.out Hw9.out (Nat.le_refl _))
        clear hHeld
        go_wp2_with fail
        go_ret
        exact ⟨rfl, HF.out⟩
    · go_wp2_with fail
      have s1 : IntKind.i64.wrap (s / chunk * chunk) = s / chunk * chunk := IntWalk.i64_in _ (by omega)
      have vs1 : s / chunk ≤ s := Int.ediv_le_self _ gs0
      have s2 : IntKind.i64.wrap (s / chunk) = s / chunk := IntWalk.i64_in _ (by omega)
      have s3 : s.tdiv chunk = s / chunk := Int.tdiv_eq_ediv_of_nonneg gs0
      have nz : ¬ chunk = 0 := by omega
      refine wp_region_noPanic ?_
      refine PX.wp_region_y (fun w' => Below wr.heap.size wr w') [] (by kernel_rfl) (Below.refl _ _).drew (fun hHeld => ?_)
      refine PX.wpAnyY_take (i := 0) (oi := ?_) (v := ?_) ?_ (by kernel_rfl) (by kernel_rfl) (by kernel_rfl) (by kernel_rfl) (by kernel_rfl) (fun _ _ _ h => h) (Or.inl ⟨?_, ?_⟩) (by assumption) ?_
      rotate_left 2
      · simp only [List.getElem?_toArray, List.getElem?_cons_succ, List.getElem?_cons_zero]; rfl
      · rfl
      · intro w hSw; (try dsimp only at hSw); have hC := fun (b o : Nat) (h : b < wr.heap.size) => Below.cell hSw (p := ⟨b, o, none⟩) h; go_simp <;> with_reducible rfl
      (try simp only [Act.put, List.setIfInBounds_toArray, List.set_cons_zero, List.set_cons_succ])
      refine PX.wpAnyY_take (i := 1) (oi := ?_) (v := ?_) ?_ (by kernel_rfl) (by kernel_rfl) (by kernel_rfl) (by kernel_rfl) (by kernel_rfl) (fun _ _ _ h => h) (Or.inl ⟨?_, ?_⟩) (by assumption) ?_
      rotate_left 2
      · simp only [List.getElem?_toArray, List.getElem?_cons_succ, List.getElem?_cons_zero]; rfl
      · rfl
      · intro w hSw; (try dsimp only at hSw); go_simp <;> with_reducible rfl
      (try simp only [Act.put, List.setIfInBounds_toArray, List.set_cons_zero, List.set_cons_succ])
      refine PX.wpAnyY_take (i := 2) (oi := ?_) (v := ?_) ?_ (by kernel_rfl) (by kernel_rfl) (by kernel_rfl) (by kernel_rfl) (by kernel_rfl) (fun _ _ _ h => h) (Or.inl ⟨?_, ?_⟩) (by assumption) ?_
      rotate_left 2
      · simp only [List.getElem?_toArray, List.getElem?_cons_succ, List.getElem?_cons_zero]; rfl
      · rfl
      · intro w hSw; (try dsimp only at hSw); go_simp <;> with_reducible rfl
      (try simp only [Act.put, List.setIfInBounds_toArray, List.set_cons_zero, List.set_cons_succ])
      refine PX.wpAnyY_take (i := 3) (oi := ?_) (v := ?_) ?_ (by kernel_rfl) (by kernel_rfl) (by kernel_rfl) (by kernel_rfl) (by kernel_rfl) (fun _ _ _ h => h) (Or.inl ⟨?_, ?_⟩) (by assumption) ?_
      rotate_left 2
      · simp only [List.getElem?_toArray, List.getElem?_cons_succ, List.getElem?_cons_zero]; rfl
      · rfl
      · intro w hSw; (try dsimp only at hSw); have hC := fun (b o : Nat) (h : b < wr.heap.size) => Below.cell hSw (p := ⟨b, o, none⟩) h; go_simp <;> with_reducible rfl
      (try simp only [Act.put, List.setIfInBounds_toArray, List.set_cons_zero, List.set_cons_succ])
      refine PX.wpAnyY_take (i := 4) (oi := ?_) (v := ?_) ?_ (by kernel_rfl) (by kernel_rfl) (by kernel_rfl) (by kernel_rfl) (by kernel_rfl) (fun _ _ _ h => h) (Or.inl ⟨?_, ?_⟩) (by assumption) ?_
      rotate_left 2
      · simp only [List.getElem?_toArray, List.getElem?_cons_succ, List.getElem?_cons_zero]; rfl
      · rfl
      · intro w hSw; (try dsimp only at hSw); go_simp <;> with_reducible rfl
      (try simp only [Act.put, List.setIfInBounds_toArray, List.set_cons_zero, List.set_cons_succ])
      refine PX.wpAnyY_one (i := 5) (o := ?_) (by kernel_rfl) ?_ (fun Kq hKq => ?_)
      rotate_left
      · simp only [List.getElem?_toArray, List.getElem?_cons_succ, List.getElem?_cons_zero]; rfl
      go_simp
      refine hKq.out _ _ (hHeld) (fun hHeld => ?_)
      clear hKq Kq
      (try simp only [Act.put, List.setIfInBounds_toArray, List.set_cons_zero, List.set_cons_succ])
      refine PX.wpAnyY_take (i := 6) (oi := ?_) (v := ?_) ?_ (by kernel_rfl) (by kernel_rfl) (by kernel_rfl) (by kernel_rfl) (by kernel_rfl) (fun _ _ _ h => h) (Or.inl ⟨?_, ?_⟩) (by assumption) ?_
      rotate_left 2
      · simp only [List.getElem?_toArray, List.getElem?_cons_succ, List.getElem?_cons_zero]; rfl
      · rfl
      · intro w hSw; (try dsimp only at hSw); have hC := fun (b o : Nat) (h : b < wr.heap.size) => Below.cell hSw (p := ⟨b, o, none⟩) h; go_simp <;> with_reducible rfl
      (try simp only [Act.put, List.setIfInBounds_toArray, List.set_cons_zero, List.set_cons_succ])
      refine PX.wpAnyY_one (i := 7) (o := ?_) (by kernel_rfl) ?_ (fun Kq hKq => ?_)
      rotate_left
      · simp only [List.getElem?_toArray, List.getElem?_cons_succ, List.getElem?_cons_zero]; rfl
      go_simp
      refine hKq.out _ _ (hHeld) (fun hHeld => ?_)
      clear hKq Kq
      (try simp only [Act.put, List.setIfInBounds_toArray, List.set_cons_zero, List.set_cons_succ])
      refine PX.wpAnyY_one (i := 8) (o := ?_) (by kernel_rfl) ?_ (fun Kq hKq => ?_)
      rotate_left
      · simp only [List.getElem?_toArray, List.getElem?_cons_succ, List.getElem?_cons_zero]; rfl
      go_simp
      (with_reducible refine (PF.out _).mono ?_)
      rintro e w9 ⟨rfl, bqw9⟩
      have Hw9 := Lib.hid (thence hHeld bqw9 (Nat.le_refl _))
      clear bqw9
      go_wp2_with fail
      refine hKq.out _ _ (Hw9.out) (fun hHeld => ?_)
      clear hKq Kq
      (try simp only [Act.put, List.setIfInBounds_toArray, List.set_cons_zero, List.set_cons_succ])
      refine PX.wpAnyY_one (i := 9) (o := ?_) (by kernel_rfl) ?_ (fun Kq hKq => ?_)
      rotate_left
      · simp only [List.getElem?_toArray, List.getElem?_cons_succ, List.getElem?_cons_zero]; rfl
      go_simp
      refine hKq.out _ _ (hHeld) (fun hHeld => ?_)
      clear hKq Kq
      (try simp only [Act.put, List.setIfInBounds_toArray, List.set_cons_zero, List.set_cons_succ])
      refine PX.wpAnyY_take (i := 10) (oi := ?_) (v := ?_) ?_ (by kernel_rfl) (by kernel_rfl) (by kernel_rfl) (by kernel_rfl) (by kernel_rfl) (fun _ _ _ h => h) (Or.inl ⟨?_, ?_⟩) (by assumption) ?_
      rotate_left 2
      · simp only [List.getElem?_toArray, List.getElem?_cons_succ, List.getElem?_cons_zero]; rfl
      · rfl
      · intro w hSw; (try dsimp only at hSw); go_simp <;> with_reducible rfl
      (try simp only [Act.put, List.setIfInBounds_toArray, List.set_cons_zero, List.set_cons_succ])
      refine PX.wpAnyY_take (i := 11) (oi := ?_) (v := ?_) ?_ (by kernel_rfl) (by kernel_rfl) (by kernel_rfl) (by kernel_rfl) (by kernel_rfl) (fun _ _ _ h => h) (Or.inl ⟨?_, ?_⟩) (by assumption) ?_
      rotate_left 2
      · simp only [List.getElem?_toArray, List.getElem?_cons_succ, List.getElem?_cons_zero]; rfl
      · rfl
      · intro w hSw; (try dsimp only at hSw); go_simp <;> with_reducible rfl
      (try simp only [Act.put, List.setIfInBounds_toArray, List.set_cons_zero, List.set_cons_succ])
      refine PX.wpAnyY_one (i := 12) (o := ?_) (by kernel_rfl) ?_ (fun Kq hKq => ?_)
      rotate_left
      · simp only [List.getElem?_toArray, List.getElem?_cons_succ, List.getElem?_cons_zero]; rfl
      go_simp
      refine hKq.out _ _ (hHeld) (fun hHeld => ?_)
      clear hKq Kq
      (try simp only [Act.put, List.setIfInBounds_toArray, List.set_cons_zero, List.set_cons_succ])
      refine PX.wpAnyY_one (i := 13) (o := ?_) (by kernel_rfl) ?_ (fun Kq hKq => ?_)
      rotate_left
      · simp only [List.getElem?_toArray, List.getElem?_cons_succ, List.getElem?_cons_zero]; rfl
      go_simp
      refine hKq.out _ _ (hHeld) (fun hHeld => ?_)
      clear hKq Kq
      (try simp only [Act.put, List.setIfInBounds_toArray, List.set_cons_zero, List.set_cons_succ])
      refine PX.wpAnyY_done (by kernel_rfl) ?_ _
      refine NoPanic.normal ?_
      have HF := Lib.hid (thence HB.out Hw9.out (Nat.le_refl _))
      clear hHeld
      go_wp2_with fail
      go_ret
      exact ⟨rfl, HF.out⟩
end Go.Proofs.Ythliogicdbnfoaa.PW
