/-
  Layer 6's laws, given what the program's calls answer.
-/
import Derived.Test.YtonaielambgedaaShapeRefs
namespace Go.Proofs.Ytonaielambgedaa.PW
open Go.RowKit
open SK (Cfg)
set_option linter.unusedVariables false
set_option linter.unusedSimpArgs false
set_option maxRecDepth 100000

/-- What the program's calls answer. -/
structure ShapeIs : Prop where
  check : ∀ (id : Nat) (mem chunk rows log heads : Int) (w : World), Calls Try.prog 10 #[.agg #[.int .u32 (id : Int), .int .i64 mem, .int .i64 chunk, .int .i64 rows, .int .i64 log, .int .i64 heads]] w fun e w' => e = .returned (.int .i64 ((Cfg.code ⟨id, mem, chunk, rows, log, heads⟩ : Nat) : Int)) ∧ Below w.heap.size w w'
  stripes : ShapeNum 11 (fun c => c.chunk * c.rows)
  blocks : ShapeNum 12 (fun c => c.chunk * c.rows * (c.mem - 1))
  need : ShapeNum 13 (fun c => c.mem + 1)
  member : ShapeNum 14 (fun c => c.chunk * c.rows + 1)
  journal : ShapeNum 15 (fun c => c.log + 1)

theorem small6_any (w : World) : Calls Try.prog 8 #[] w fun e w' => e = .returned (.agg #[.int .u32 0, .int .i64 3, .int .i64 2, .int .i64 3, .int .i64 12, .int .i64 2]) ∧ Below w.heap.size w w' := by
  go_enter Try.func8, Try.ntmps8
  go_wp2
  refine bodyPost_ret (v := .agg #[.int .u32 0, .int .i64 3, .int .i64 2, .int .i64 3, .int .i64 12, .int .i64 2]) (by simp [results, Try.results8, go_sem]) rfl ⟨rfl, ?_⟩
  exact (Below.refl _ _).alloc (Nat.le_refl _) _

/-- Of the chapter's config. -/
theorem small_of (I : ShapeIs) : Hid (∀ w1 : World, Calls Try.prog 8 #[] w1 fun e w' => e = .returned (.agg #[.int .u32 0, .int .i64 3, .int .i64 2, .int .i64 3, .int .i64 12, .int .i64 2]) ∧ Below w1.heap.size w1 w') ∧
    Hid (∀ w1 : World, Calls Try.prog 11 #[.agg #[.int .u32 0, .int .i64 3, .int .i64 2, .int .i64 3, .int .i64 12, .int .i64 2]] w1 fun e w' => e = .returned (.tuple #[.int .i64 6, .int .i64 0]) ∧ Below w1.heap.size w1 w') ∧
    Hid (∀ w1 : World, Calls Try.prog 12 #[.agg #[.int .u32 0, .int .i64 3, .int .i64 2, .int .i64 3, .int .i64 12, .int .i64 2]] w1 fun e w' => e = .returned (.tuple #[.int .i64 12, .int .i64 0]) ∧ Below w1.heap.size w1 w') ∧
    Hid (∀ w1 : World, Calls Try.prog 13 #[.agg #[.int .u32 0, .int .i64 3, .int .i64 2, .int .i64 3, .int .i64 12, .int .i64 2]] w1 fun e w' => e = .returned (.tuple #[.int .i64 4, .int .i64 0]) ∧ Below w1.heap.size w1 w') ∧
    Hid (∀ w1 : World, Calls Try.prog 14 #[.agg #[.int .u32 0, .int .i64 3, .int .i64 2, .int .i64 3, .int .i64 12, .int .i64 2]] w1 fun e w' => e = .returned (.tuple #[.int .i64 7, .int .i64 0]) ∧ Below w1.heap.size w1 w') ∧
    Hid (∀ w1 : World, Calls Try.prog 15 #[.agg #[.int .u32 0, .int .i64 3, .int .i64 2, .int .i64 3, .int .i64 12, .int .i64 2]] w1 fun e w' => e = .returned (.tuple #[.int .i64 13, .int .i64 0]) ∧ Below w1.heap.size w1 w') :=
  ⟨small6_any, fun w => I.stripes 0 3 2 3 12 2 w, fun w => I.blocks 0 3 2 3 12 2 w, fun w => I.need 0 3 2 3 12 2 w, fun w => I.member 0 3 2 3 12 2 w, fun w => I.journal 0 3 2 3 12 2 w⟩

set_option maxHeartbeats 1000000 in
theorem alive6_any (I : ShapeIs) (w : World) : Calls Try.prog 9 #[] w fun e w' => e = .returned (.bool true) ∧ Below w.heap.size w w' := by
  obtain ⟨CS, C0, C1, C2, C3, C4⟩ := small_of I
  go_enter Try.func9, Try.ntmps9
  go_wp2_with fail
  refine (CS.out _).mono ?_
  rintro e w1 ⟨rfl, b1⟩
  have B1 := Lib.hid (b1)
  clear b1
  go_wp2_with fail
  refine (C0.out _).mono ?_
  rintro e w2 ⟨rfl, b2⟩
  have B2 := Lib.hid (thence B1.out b2 (Nat.le_refl _))
  clear b2 B1
  go_wp2_with fail
  refine (CS.out _).mono ?_
  rintro e w3 ⟨rfl, b3⟩
  have B3 := Lib.hid (thence B2.out b3 (Nat.le_refl _))
  clear b3 B2
  go_wp2_with fail
  refine (C1.out _).mono ?_
  rintro e w4 ⟨rfl, b4⟩
  have B4 := Lib.hid (thence B3.out b4 (Nat.le_refl _))
  clear b4 B3
  go_wp2_with fail
  refine (CS.out _).mono ?_
  rintro e w5 ⟨rfl, b5⟩
  have B5 := Lib.hid (thence B4.out b5 (Nat.le_refl _))
  clear b5 B4
  go_wp2_with fail
  refine (C2.out _).mono ?_
  rintro e w6 ⟨rfl, b6⟩
  have B6 := Lib.hid (thence B5.out b6 (Nat.le_refl _))
  clear b6 B5
  go_wp2_with fail
  refine (CS.out _).mono ?_
  rintro e w7 ⟨rfl, b7⟩
  have B7 := Lib.hid (thence B6.out b7 (Nat.le_refl _))
  clear b7 B6
  go_wp2_with fail
  refine (C3.out _).mono ?_
  rintro e w8 ⟨rfl, b8⟩
  have B8 := Lib.hid (thence B7.out b8 (Nat.le_refl _))
  clear b8 B7
  go_wp2_with fail
  refine (CS.out _).mono ?_
  rintro e w9 ⟨rfl, b9⟩
  have B9 := Lib.hid (thence B8.out b9 (Nat.le_refl _))
  clear b9 B8
  go_wp2_with fail
  refine (C4.out _).mono ?_
  rintro e w10 ⟨rfl, b10⟩
  have B10 := Lib.hid (thence B9.out b10 (Nat.le_refl _))
  clear b10 B9
  go_wp2_with fail
  go_ret
  exact ⟨rfl, B10.out⟩

set_option maxHeartbeats 2000000 in
theorem shapeTells_walk (I : ShapeIs) (id : Nat) (mem chunk rows log heads : Int) (w : World) :
    Calls Try.prog 4 #[.agg #[.int .u32 (id : Int), .int .i64 mem, .int .i64 chunk, .int .i64 rows, .int .i64 log, .int .i64 heads]] w fun e w' => e = .returned (.bool true) ∧ Below w.heap.size w w' := by
  have B0 : Hid (Below w.heap.size w (w.alloc (.cells #[.int .u32 (id : Int), .int .i64 mem, .int .i64 chunk, .int .i64 rows, .int .i64 log, .int .i64 heads] 24))) := (Below.refl _ _).alloc (Nat.le_refl _) _
  have BX := Lib.hid (Bx.new w [.int .u32 (id : Int), .int .i64 mem, .int .i64 chunk, .int .i64 rows, .int .i64 log, .int .i64 heads] 24)
  by_cases hm : Cfg.may ⟨id, mem, chunk, rows, log, heads⟩ = true
  case neg =>
    have hf : Cfg.may ⟨id, mem, chunk, rows, log, heads⟩ = false := by simpa using hm
    have hc : Cfg.code ⟨id, mem, chunk, rows, log, heads⟩ = 8 := SK.code_no hf
    have Cstripes : Hid (∀ w1 : World, Calls Try.prog 11 #[.agg #[.int .u32 (id : Int), .int .i64 mem, .int .i64 chunk, .int .i64 rows, .int .i64 log, .int .i64 heads]] w1 fun e w' => e = .returned (.tuple #[.int .i64 0, .int .i64 8]) ∧ Below w1.heap.size w1 w') := fun w1 => by have := I.stripes id mem chunk rows log heads w1; rw [if_neg hm, hc] at this; exact this
    have Cblocks : Hid (∀ w1 : World, Calls Try.prog 12 #[.agg #[.int .u32 (id : Int), .int .i64 mem, .int .i64 chunk, .int .i64 rows, .int .i64 log, .int .i64 heads]] w1 fun e w' => e = .returned (.tuple #[.int .i64 0, .int .i64 8]) ∧ Below w1.heap.size w1 w') := fun w1 => by have := I.blocks id mem chunk rows log heads w1; rw [if_neg hm, hc] at this; exact this
    have Cneed : Hid (∀ w1 : World, Calls Try.prog 13 #[.agg #[.int .u32 (id : Int), .int .i64 mem, .int .i64 chunk, .int .i64 rows, .int .i64 log, .int .i64 heads]] w1 fun e w' => e = .returned (.tuple #[.int .i64 0, .int .i64 8]) ∧ Below w1.heap.size w1 w') := fun w1 => by have := I.need id mem chunk rows log heads w1; rw [if_neg hm, hc] at this; exact this
    have Cmember : Hid (∀ w1 : World, Calls Try.prog 14 #[.agg #[.int .u32 (id : Int), .int .i64 mem, .int .i64 chunk, .int .i64 rows, .int .i64 log, .int .i64 heads]] w1 fun e w' => e = .returned (.tuple #[.int .i64 0, .int .i64 8]) ∧ Below w1.heap.size w1 w') := fun w1 => by have := I.member id mem chunk rows log heads w1; rw [if_neg hm, hc] at this; exact this
    have Cjournal : Hid (∀ w1 : World, Calls Try.prog 15 #[.agg #[.int .u32 (id : Int), .int .i64 mem, .int .i64 chunk, .int .i64 rows, .int .i64 log, .int .i64 heads]] w1 fun e w' => e = .returned (.tuple #[.int .i64 0, .int .i64 8]) ∧ Below w1.heap.size w1 w') := fun w1 => by have := I.journal id mem chunk rows log heads w1; rw [if_neg hm, hc] at this; exact this
    have CC : Hid (∀ w1 : World, Calls Try.prog 10 #[.agg #[.int .u32 (id : Int), .int .i64 mem, .int .i64 chunk, .int .i64 rows, .int .i64 log, .int .i64 heads]] w1 fun e w' => e = .returned (.int .i64 8) ∧ Below w1.heap.size w1 w') := fun w1 => by have := I.check id mem chunk rows log heads w1; rw [hc] at this; exact this
    have CK : Hid (∀ w1 : World, Calls Try.prog 16 #[.agg #[.int .u32 (id : Int), .int .i64 mem, .int .i64 chunk, .int .i64 rows, .int .i64 log, .int .i64 heads]] w1 fun e w' => e = .returned (.int .i64 8) ∧ Below w1.heap.size w1 w') := fun w1 => by have := refCheck_any id mem chunk rows log heads w1; rw [hc] at this; exact this
    clear hm hc hf
    go_enter Try.func4, Try.ntmps4
    go_wp2_with fail
    refine (Cstripes.out _).mono ?_
    rintro e w1 ⟨rfl, b1⟩
    have B1 := Lib.hid (thence B0.out b1 (Nat.le_refl _))
    have BX := Lib.hid (BX.out.here b1)
    obtain ⟨c0, c1, c2, c3, c4, c5⟩ := BX.out.six
    clear b1 B0
    go_wp2_with fail
    refine (Cblocks.out _).mono ?_
    rintro e w2 ⟨rfl, b2⟩
    have B2 := Lib.hid (thence B1.out b2 (Nat.le_refl _))
    clear c0 c1 c2 c3 c4 c5
    have BX := Lib.hid (BX.out.here b2)
    obtain ⟨c0, c1, c2, c3, c4, c5⟩ := BX.out.six
    clear b2 B1
    go_wp2_with fail
    refine (Cneed.out _).mono ?_
    rintro e w3 ⟨rfl, b3⟩
    have B3 := Lib.hid (thence B2.out b3 (Nat.le_refl _))
    clear c0 c1 c2 c3 c4 c5
    have BX := Lib.hid (BX.out.here b3)
    obtain ⟨c0, c1, c2, c3, c4, c5⟩ := BX.out.six
    clear b3 B2
    go_wp2_with fail
    refine (Cmember.out _).mono ?_
    rintro e w4 ⟨rfl, b4⟩
    have B4 := Lib.hid (thence B3.out b4 (Nat.le_refl _))
    clear c0 c1 c2 c3 c4 c5
    have BX := Lib.hid (BX.out.here b4)
    obtain ⟨c0, c1, c2, c3, c4, c5⟩ := BX.out.six
    clear b4 B3
    go_wp2_with fail
    refine (Cjournal.out _).mono ?_
    rintro e w5 ⟨rfl, b5⟩
    have B5 := Lib.hid (thence B4.out b5 (Nat.le_refl _))
    clear c0 c1 c2 c3 c4 c5
    have BX := Lib.hid (BX.out.here b5)
    obtain ⟨c0, c1, c2, c3, c4, c5⟩ := BX.out.six
    clear b5 B4
    go_wp2_with fail
    refine (CK.out _).mono ?_
    rintro e w6 ⟨rfl, b6⟩
    have B6 := Lib.hid (thence B5.out b6 (Nat.le_refl _))
    clear c0 c1 c2 c3 c4 c5
    have BX := Lib.hid (BX.out.here b6)
    obtain ⟨c0, c1, c2, c3, c4, c5⟩ := BX.out.six
    clear b6 B5
    go_wp2_with fail
    refine (CC.out _).mono ?_
    rintro e w7 ⟨rfl, b7⟩
    have B7 := Lib.hid (thence B6.out b7 (Nat.le_refl _))
    clear c0 c1 c2 c3 c4 c5
    have BX := Lib.hid (BX.out.here b7)
    obtain ⟨c0, c1, c2, c3, c4, c5⟩ := BX.out.six
    clear b7 B6
    go_wp2_with fail
    go_ret
    exact ⟨rfl, B7.out⟩
  have hc : Cfg.code ⟨id, mem, chunk, rows, log, heads⟩ = 0 := SK.code_yes hm
  have Cstripes : Hid (∀ w1 : World, Calls Try.prog 11 #[.agg #[.int .u32 (id : Int), .int .i64 mem, .int .i64 chunk, .int .i64 rows, .int .i64 log, .int .i64 heads]] w1 fun e w' => e = .returned (.tuple #[.int .i64 (chunk * rows), .int .i64 0]) ∧ Below w1.heap.size w1 w') := fun w1 => by have := I.stripes id mem chunk rows log heads w1; rw [if_pos hm, hc] at this; exact this
  have Cblocks : Hid (∀ w1 : World, Calls Try.prog 12 #[.agg #[.int .u32 (id : Int), .int .i64 mem, .int .i64 chunk, .int .i64 rows, .int .i64 log, .int .i64 heads]] w1 fun e w' => e = .returned (.tuple #[.int .i64 (chunk * rows * (mem - 1)), .int .i64 0]) ∧ Below w1.heap.size w1 w') := fun w1 => by have := I.blocks id mem chunk rows log heads w1; rw [if_pos hm, hc] at this; exact this
  have Cneed : Hid (∀ w1 : World, Calls Try.prog 13 #[.agg #[.int .u32 (id : Int), .int .i64 mem, .int .i64 chunk, .int .i64 rows, .int .i64 log, .int .i64 heads]] w1 fun e w' => e = .returned (.tuple #[.int .i64 (mem + 1), .int .i64 0]) ∧ Below w1.heap.size w1 w') := fun w1 => by have := I.need id mem chunk rows log heads w1; rw [if_pos hm, hc] at this; exact this
  have Cmember : Hid (∀ w1 : World, Calls Try.prog 14 #[.agg #[.int .u32 (id : Int), .int .i64 mem, .int .i64 chunk, .int .i64 rows, .int .i64 log, .int .i64 heads]] w1 fun e w' => e = .returned (.tuple #[.int .i64 (chunk * rows + 1), .int .i64 0]) ∧ Below w1.heap.size w1 w') := fun w1 => by have := I.member id mem chunk rows log heads w1; rw [if_pos hm, hc] at this; exact this
  have Cjournal : Hid (∀ w1 : World, Calls Try.prog 15 #[.agg #[.int .u32 (id : Int), .int .i64 mem, .int .i64 chunk, .int .i64 rows, .int .i64 log, .int .i64 heads]] w1 fun e w' => e = .returned (.tuple #[.int .i64 (log + 1), .int .i64 0]) ∧ Below w1.heap.size w1 w') := fun w1 => by have := I.journal id mem chunk rows log heads w1; rw [if_pos hm, hc] at this; exact this
  have CC : Hid (∀ w1 : World, Calls Try.prog 10 #[.agg #[.int .u32 (id : Int), .int .i64 mem, .int .i64 chunk, .int .i64 rows, .int .i64 log, .int .i64 heads]] w1 fun e w' => e = .returned (.int .i64 0) ∧ Below w1.heap.size w1 w') := fun w1 => by have := I.check id mem chunk rows log heads w1; rw [hc] at this; exact this
  have CK : Hid (∀ w1 : World, Calls Try.prog 16 #[.agg #[.int .u32 (id : Int), .int .i64 mem, .int .i64 chunk, .int .i64 rows, .int .i64 log, .int .i64 heads]] w1 fun e w' => e = .returned (.int .i64 0) ∧ Below w1.heap.size w1 w') := fun w1 => by have := refCheck_any id mem chunk rows log heads w1; rw [hc] at this; exact this
  have hp := SK.may_iff.1 hm
  have hs := SK.stripes_bd hp
  have hb := SK.blocks_bd hp
  have hr := SK.room_bd hp.1 hp.2.2.2.1
  unfold Cfg.blocks at hb
  unfold Cfg.stripes at hs hb
  dsimp only at hs hb hr
  have HP := Lib.hid hp
  obtain ⟨⟨k0, k1⟩, ⟨k2, k3⟩, ⟨k4, k5⟩, ⟨k6, k7⟩, k8, k9⟩ := hp
  obtain ⟨s0, s1⟩ := hs
  obtain ⟨t0, t1⟩ := hb
  dsimp only at k0 k1 k2 k3 k4 k5 k6 k7 k8 k9
  have k10 : 12 ≤ log := by omega
  have RStripes := Lib.hid (fun w1 => refStripes_any id mem chunk rows log heads w1 HP.out)
  have RBlocks := Lib.hid (fun w1 => refBlocks_any id mem chunk rows log heads w1 HP.out)
  have RNeed := Lib.hid (fun w1 => refNeed_any id mem chunk rows log heads w1 (by omega) (by omega))
  have RMember := Lib.hid (fun w1 => refMember_any id mem chunk rows log heads w1 HP.out)
  have RJournal := Lib.hid (fun w1 => refJournal_any id mem chunk rows log heads w1 HP.out)
  have a1 : ((chunk * rows + 1 : Int) == 1 + chunk * rows) = true := beq_iff_eq.2 (by omega)
  have a2 : ((log + 1 : Int) == 1 + log) = true := beq_iff_eq.2 (by omega)
  clear hm hc
  go_enter Try.func4, Try.ntmps4
  go_wp2_with fail
  refine (Cstripes.out _).mono ?_
  rintro e w1 ⟨rfl, b1⟩
  have B1 := Lib.hid (thence B0.out b1 (Nat.le_refl _))
  have BX := Lib.hid (BX.out.here b1)
  obtain ⟨c0, c1, c2, c3, c4, c5⟩ := BX.out.six
  clear b1 B0
  go_wp2_with fail
  refine (Cblocks.out _).mono ?_
  rintro e w2 ⟨rfl, b2⟩
  have B2 := Lib.hid (thence B1.out b2 (Nat.le_refl _))
  clear c0 c1 c2 c3 c4 c5
  have BX := Lib.hid (BX.out.here b2)
  obtain ⟨c0, c1, c2, c3, c4, c5⟩ := BX.out.six
  clear b2 B1
  go_wp2_with fail
  refine (Cneed.out _).mono ?_
  rintro e w3 ⟨rfl, b3⟩
  have B3 := Lib.hid (thence B2.out b3 (Nat.le_refl _))
  clear c0 c1 c2 c3 c4 c5
  have BX := Lib.hid (BX.out.here b3)
  obtain ⟨c0, c1, c2, c3, c4, c5⟩ := BX.out.six
  clear b3 B2
  go_wp2_with fail
  refine (Cmember.out _).mono ?_
  rintro e w4 ⟨rfl, b4⟩
  have B4 := Lib.hid (thence B3.out b4 (Nat.le_refl _))
  clear c0 c1 c2 c3 c4 c5
  have BX := Lib.hid (BX.out.here b4)
  obtain ⟨c0, c1, c2, c3, c4, c5⟩ := BX.out.six
  clear b4 B3
  go_wp2_with fail
  refine (Cjournal.out _).mono ?_
  rintro e w5 ⟨rfl, b5⟩
  have B5 := Lib.hid (thence B4.out b5 (Nat.le_refl _))
  clear c0 c1 c2 c3 c4 c5
  have BX := Lib.hid (BX.out.here b5)
  obtain ⟨c0, c1, c2, c3, c4, c5⟩ := BX.out.six
  clear b5 B4
  go_wp2_with fail
  refine (CK.out _).mono ?_
  rintro e w6 ⟨rfl, b6⟩
  have B6 := Lib.hid (thence B5.out b6 (Nat.le_refl _))
  clear c0 c1 c2 c3 c4 c5
  have BX := Lib.hid (BX.out.here b6)
  obtain ⟨c0, c1, c2, c3, c4, c5⟩ := BX.out.six
  clear b6 B5
  go_wp2_with fail
  refine (CC.out _).mono ?_
  rintro e w7 ⟨rfl, b7⟩
  have B7 := Lib.hid (thence B6.out b7 (Nat.le_refl _))
  clear c0 c1 c2 c3 c4 c5
  have BX := Lib.hid (BX.out.here b7)
  obtain ⟨c0, c1, c2, c3, c4, c5⟩ := BX.out.six
  clear b7 B6
  go_wp2_with fail
  refine (RStripes.out _).mono ?_
  rintro e w8 ⟨rfl, b8⟩
  have B8 := Lib.hid (thence B7.out b8 (Nat.le_refl _))
  clear c0 c1 c2 c3 c4 c5
  have BX := Lib.hid (BX.out.here b8)
  obtain ⟨c0, c1, c2, c3, c4, c5⟩ := BX.out.six
  clear b8 B7
  go_wp2_with fail
  refine (RBlocks.out _).mono ?_
  rintro e w9 ⟨rfl, b9⟩
  have B9 := Lib.hid (thence B8.out b9 (Nat.le_refl _))
  clear c0 c1 c2 c3 c4 c5
  have BX := Lib.hid (BX.out.here b9)
  obtain ⟨c0, c1, c2, c3, c4, c5⟩ := BX.out.six
  clear b9 B8
  go_wp2_with fail
  refine (RNeed.out _).mono ?_
  rintro e w10 ⟨rfl, b10⟩
  have B10 := Lib.hid (thence B9.out b10 (Nat.le_refl _))
  clear c0 c1 c2 c3 c4 c5
  have BX := Lib.hid (BX.out.here b10)
  obtain ⟨c0, c1, c2, c3, c4, c5⟩ := BX.out.six
  clear b10 B9
  go_wp2_with fail
  refine (RMember.out _).mono ?_
  rintro e w11 ⟨rfl, b11⟩
  have B11 := Lib.hid (thence B10.out b11 (Nat.le_refl _))
  clear c0 c1 c2 c3 c4 c5
  have BX := Lib.hid (BX.out.here b11)
  obtain ⟨c0, c1, c2, c3, c4, c5⟩ := BX.out.six
  clear b11 B10
  go_wp2_with fail
  refine (RJournal.out _).mono ?_
  rintro e w12 ⟨rfl, b12⟩
  have B12 := Lib.hid (thence B11.out b12 (Nat.le_refl _))
  clear c0 c1 c2 c3 c4 c5
  have BX := Lib.hid (BX.out.here b12)
  obtain ⟨c0, c1, c2, c3, c4, c5⟩ := BX.out.six
  clear b12 B11
  go_wp2_with fail
  go_ret
  exact ⟨rfl, B12.out⟩

set_option maxHeartbeats 1000000 in
theorem shapeNames_walk (I : ShapeIs) (w : World) : Calls Try.prog 3 #[] w fun e w' => e = .returned (.bool true) ∧ Below w.heap.size w w' := by
  obtain ⟨CS, -⟩ := small_of I
  have CA := Lib.hid (alive6_any I)
  have K1 : Hid (∀ w1 : World, Calls Try.prog 10 #[.agg #[.int .u32 0, .int .i64 3, .int .i64 2, .int .i64 3, .int .i64 11, .int .i64 2]] w1 fun e w' => e = .returned (.int .i64 8) ∧ Below w1.heap.size w1 w') := fun w => I.check 0 3 2 3 11 2 w
  have K2 : Hid (∀ w1 : World, Calls Try.prog 10 #[.agg #[.int .u32 0, .int .i64 17, .int .i64 2, .int .i64 3, .int .i64 255, .int .i64 2]] w1 fun e w' => e = .returned (.int .i64 8) ∧ Below w1.heap.size w1 w') := fun w => I.check 0 17 2 3 255 2 w
  have K3 : Hid (∀ w1 : World, Calls Try.prog 10 #[.agg #[.int .u32 0, .int .i64 0, .int .i64 0, .int .i64 0, .int .i64 0, .int .i64 0]] w1 fun e w' => e = .returned (.int .i64 8) ∧ Below w1.heap.size w1 w') := fun w => I.check 0 0 0 0 0 0 w
  go_enter Try.func3, Try.ntmps3
  go_wp2_with fail
  refine (CS.out _).mono ?_
  rintro e w1 ⟨rfl, b1⟩
  have ha : Below w1.heap.size w1 (w1.alloc (.cells #[.int .u32 0, .int .i64 3, .int .i64 2, .int .i64 3, .int .i64 11, .int .i64 2] 24)) := (Below.refl _ _).alloc (Nat.le_refl _) _
  have B1 := Lib.hid (thence b1 ha (Nat.le_refl _))
  have X1 := Lib.hid (Bx.new w1 [.int .u32 0, .int .i64 3, .int .i64 2, .int .i64 3, .int .i64 11, .int .i64 2] 24)
  clear b1 ha
  go_wp2_with fail
  refine (CS.out _).mono ?_
  rintro e w2 ⟨rfl, b2⟩
  have X1 := Lib.hid (X1.out.here b2)
  have ha : Below w2.heap.size w2 (w2.alloc (.cells #[.int .u32 0, .int .i64 17, .int .i64 2, .int .i64 3, .int .i64 255, .int .i64 2] 24)) := (Below.refl _ _).alloc (Nat.le_refl _) _
  have X1 := Lib.hid (X1.out.here ha)
  have B2 := Lib.hid (thence B1.out (thence b2 ha (Nat.le_refl _)) (Nat.le_refl _))
  have X2 := Lib.hid (Bx.new w2 [.int .u32 0, .int .i64 17, .int .i64 2, .int .i64 3, .int .i64 255, .int .i64 2] 24)
  clear b2 ha
  go_wp2_with fail
  refine (CA.out _).mono ?_
  rintro e w3 ⟨rfl, b3⟩
  have X1 := Lib.hid (X1.out.here b3)
  have X2 := Lib.hid (X2.out.here b3)
  have B3 := Lib.hid (thence B2.out b3 (Nat.le_refl _))
  obtain ⟨c0, c1, c2, c3, c4, c5⟩ := X1.out.six
  obtain ⟨d0, d1, d2, d3, d4, d5⟩ := X2.out.six
  clear b3
  go_wp2_with fail
  refine (K1.out _).mono ?_
  rintro e w4 ⟨rfl, b4⟩
  have X2 := Lib.hid (X2.out.here b4)
  have B4 := Lib.hid (thence B3.out b4 (Nat.le_refl _))
  clear b4 c0 c1 c2 c3 c4 c5 d0 d1 d2 d3 d4 d5
  obtain ⟨d0, d1, d2, d3, d4, d5⟩ := X2.out.six
  go_wp2_with fail
  refine (K2.out _).mono ?_
  rintro e w5 ⟨rfl, b5⟩
  have B5 := Lib.hid (thence B4.out b5 (Nat.le_refl _))
  clear b5
  go_wp2_with fail
  refine (K3.out _).mono ?_
  rintro e w6 ⟨rfl, b6⟩
  have B6 := Lib.hid (thence B5.out b6 (Nat.le_refl _))
  clear b6
  go_wp2_with fail
  go_ret
  exact ⟨rfl, B6.out⟩

set_option maxHeartbeats 2000000 in
theorem shapeFits_walk (I : ShapeIs) (id : Nat) (mem chunk rows log heads : Int) (w : World) :
    Calls Try.prog 5 #[.agg #[.int .u32 (id : Int), .int .i64 mem, .int .i64 chunk, .int .i64 rows, .int .i64 log, .int .i64 heads]] w fun e w' => e = .returned (.bool true) ∧ Below w.heap.size w w' := by
  have B0 : Hid (Below w.heap.size w (w.alloc (.cells #[.int .u32 (id : Int), .int .i64 mem, .int .i64 chunk, .int .i64 rows, .int .i64 log, .int .i64 heads] 24))) := (Below.refl _ _).alloc (Nat.le_refl _) _
  have BX := Lib.hid (Bx.new w [.int .u32 (id : Int), .int .i64 mem, .int .i64 chunk, .int .i64 rows, .int .i64 log, .int .i64 heads] 24)
  have CA := Lib.hid (alive6_any I)
  by_cases hm : Cfg.may ⟨id, mem, chunk, rows, log, heads⟩ = true
  case neg =>
    have hf : Cfg.may ⟨id, mem, chunk, rows, log, heads⟩ = false := by simpa using hm
    have hc : Cfg.code ⟨id, mem, chunk, rows, log, heads⟩ = 8 := SK.code_no hf
    have CC : Hid (∀ w1 : World, Calls Try.prog 10 #[.agg #[.int .u32 (id : Int), .int .i64 mem, .int .i64 chunk, .int .i64 rows, .int .i64 log, .int .i64 heads]] w1 fun e w' => e = .returned (.int .i64 8) ∧ Below w1.heap.size w1 w') := fun w1 => by have := I.check id mem chunk rows log heads w1; rw [hc] at this; exact this
    clear hm hc hf
    go_enter Try.func5, Try.ntmps5
    go_wp2_with fail
    refine (CA.out _).mono ?_
    rintro e w1 ⟨rfl, b1⟩
    have B1 := Lib.hid (thence B0.out b1 (Nat.le_refl _))
    have BX := Lib.hid (BX.out.here b1)
    obtain ⟨c0, c1, c2, c3, c4, c5⟩ := BX.out.six
    clear b1 B0
    go_wp2_with fail
    refine (CC.out _).mono ?_
    rintro e w2 ⟨rfl, b2⟩
    have B2 := Lib.hid (thence B1.out b2 (Nat.le_refl _))
    clear c0 c1 c2 c3 c4 c5
    have BX := Lib.hid (BX.out.here b2)
    obtain ⟨c0, c1, c2, c3, c4, c5⟩ := BX.out.six
    clear b2 B1
    go_wp2_with fail
    go_ret
    exact ⟨rfl, B2.out⟩
  have hc : Cfg.code ⟨id, mem, chunk, rows, log, heads⟩ = 0 := SK.code_yes hm
  have CC : Hid (∀ w1 : World, Calls Try.prog 10 #[.agg #[.int .u32 (id : Int), .int .i64 mem, .int .i64 chunk, .int .i64 rows, .int .i64 log, .int .i64 heads]] w1 fun e w' => e = .returned (.int .i64 0) ∧ Below w1.heap.size w1 w') := fun w1 => by have := I.check id mem chunk rows log heads w1; rw [hc] at this; exact this
  have Cstripes : Hid (∀ w1 : World, Calls Try.prog 11 #[.agg #[.int .u32 (id : Int), .int .i64 mem, .int .i64 chunk, .int .i64 rows, .int .i64 log, .int .i64 heads]] w1 fun e w' => e = .returned (.tuple #[.int .i64 (chunk * rows), .int .i64 0]) ∧ Below w1.heap.size w1 w') := fun w1 => by have := I.stripes id mem chunk rows log heads w1; rw [if_pos hm, hc] at this; exact this
  have Cblocks : Hid (∀ w1 : World, Calls Try.prog 12 #[.agg #[.int .u32 (id : Int), .int .i64 mem, .int .i64 chunk, .int .i64 rows, .int .i64 log, .int .i64 heads]] w1 fun e w' => e = .returned (.tuple #[.int .i64 (chunk * rows * (mem - 1)), .int .i64 0]) ∧ Below w1.heap.size w1 w') := fun w1 => by have := I.blocks id mem chunk rows log heads w1; rw [if_pos hm, hc] at this; exact this
  have Cneed : Hid (∀ w1 : World, Calls Try.prog 13 #[.agg #[.int .u32 (id : Int), .int .i64 mem, .int .i64 chunk, .int .i64 rows, .int .i64 log, .int .i64 heads]] w1 fun e w' => e = .returned (.tuple #[.int .i64 (mem + 1), .int .i64 0]) ∧ Below w1.heap.size w1 w') := fun w1 => by have := I.need id mem chunk rows log heads w1; rw [if_pos hm, hc] at this; exact this
  have Cmember : Hid (∀ w1 : World, Calls Try.prog 14 #[.agg #[.int .u32 (id : Int), .int .i64 mem, .int .i64 chunk, .int .i64 rows, .int .i64 log, .int .i64 heads]] w1 fun e w' => e = .returned (.tuple #[.int .i64 (chunk * rows + 1), .int .i64 0]) ∧ Below w1.heap.size w1 w') := fun w1 => by have := I.member id mem chunk rows log heads w1; rw [if_pos hm, hc] at this; exact this
  have Cjournal : Hid (∀ w1 : World, Calls Try.prog 15 #[.agg #[.int .u32 (id : Int), .int .i64 mem, .int .i64 chunk, .int .i64 rows, .int .i64 log, .int .i64 heads]] w1 fun e w' => e = .returned (.tuple #[.int .i64 (log + 1), .int .i64 0]) ∧ Below w1.heap.size w1 w') := fun w1 => by have := I.journal id mem chunk rows log heads w1; rw [if_pos hm, hc] at this; exact this
  have hp := SK.may_iff.1 hm
  have hs := SK.stripes_bd hp
  have hb := SK.blocks_bd hp
  have hr := SK.room_bd hp.1 hp.2.2.2.1
  unfold Cfg.blocks at hb
  unfold Cfg.stripes at hs hb
  dsimp only at hs hb hr
  have HP := Lib.hid hp
  obtain ⟨⟨k0, k1⟩, ⟨k2, k3⟩, ⟨k4, k5⟩, ⟨k6, k7⟩, k8, k9⟩ := hp
  obtain ⟨s0, s1⟩ := hs
  obtain ⟨t0, t1⟩ := hb
  dsimp only at k0 k1 k2 k3 k4 k5 k6 k7 k8 k9
  have k10 : 12 ≤ log := by omega
  have k11 : (mem + 1) * (heads + 1) ≤ (log + 1) - 1 := by omega
  have a1 : ((chunk * rows * (mem - 1) : Int) == chunk * rows * (mem - 1)) = true := beq_iff_eq.2 rfl
  clear hm hc
  go_enter Try.func5, Try.ntmps5
  go_wp2_with fail
  refine (CA.out _).mono ?_
  rintro e w1 ⟨rfl, b1⟩
  have B1 := Lib.hid (thence B0.out b1 (Nat.le_refl _))
  have BX := Lib.hid (BX.out.here b1)
  obtain ⟨c0, c1, c2, c3, c4, c5⟩ := BX.out.six
  clear b1 B0
  go_wp2_with fail
  refine (CC.out _).mono ?_
  rintro e w2 ⟨rfl, b2⟩
  have B2 := Lib.hid (thence B1.out b2 (Nat.le_refl _))
  clear c0 c1 c2 c3 c4 c5
  have BX := Lib.hid (BX.out.here b2)
  obtain ⟨c0, c1, c2, c3, c4, c5⟩ := BX.out.six
  clear b2 B1
  go_wp2_with fail
  refine (Cstripes.out _).mono ?_
  rintro e w3 ⟨rfl, b3⟩
  have B3 := Lib.hid (thence B2.out b3 (Nat.le_refl _))
  clear c0 c1 c2 c3 c4 c5
  have BX := Lib.hid (BX.out.here b3)
  obtain ⟨c0, c1, c2, c3, c4, c5⟩ := BX.out.six
  clear b3 B2
  go_wp2_with fail
  refine (Cblocks.out _).mono ?_
  rintro e w4 ⟨rfl, b4⟩
  have B4 := Lib.hid (thence B3.out b4 (Nat.le_refl _))
  clear c0 c1 c2 c3 c4 c5
  have BX := Lib.hid (BX.out.here b4)
  obtain ⟨c0, c1, c2, c3, c4, c5⟩ := BX.out.six
  clear b4 B3
  go_wp2_with fail
  refine (Cneed.out _).mono ?_
  rintro e w5 ⟨rfl, b5⟩
  have B5 := Lib.hid (thence B4.out b5 (Nat.le_refl _))
  clear c0 c1 c2 c3 c4 c5
  have BX := Lib.hid (BX.out.here b5)
  obtain ⟨c0, c1, c2, c3, c4, c5⟩ := BX.out.six
  clear b5 B4
  go_wp2_with fail
  refine (Cmember.out _).mono ?_
  rintro e w6 ⟨rfl, b6⟩
  have B6 := Lib.hid (thence B5.out b6 (Nat.le_refl _))
  clear c0 c1 c2 c3 c4 c5
  have BX := Lib.hid (BX.out.here b6)
  obtain ⟨c0, c1, c2, c3, c4, c5⟩ := BX.out.six
  clear b6 B5
  go_wp2_with fail
  refine (Cjournal.out _).mono ?_
  rintro e w7 ⟨rfl, b7⟩
  have B7 := Lib.hid (thence B6.out b7 (Nat.le_refl _))
  clear c0 c1 c2 c3 c4 c5
  have BX := Lib.hid (BX.out.here b7)
  obtain ⟨c0, c1, c2, c3, c4, c5⟩ := BX.out.six
  clear b7 B6
  go_wp2_with fail
  go_ret
  exact ⟨rfl, B7.out⟩

set_option maxHeartbeats 2000000 in
theorem shapeApart_walk (I : ShapeIs) (id : Nat) (mem chunk rows log heads : Int) (id' : Nat) (mem' chunk' rows' log' heads' : Int) (w : World) :
    Calls Try.prog 6 #[.agg #[.int .u32 (id : Int), .int .i64 mem, .int .i64 chunk, .int .i64 rows, .int .i64 log, .int .i64 heads], .agg #[.int .u32 (id' : Int), .int .i64 mem', .int .i64 chunk', .int .i64 rows', .int .i64 log', .int .i64 heads']] w fun e w' => e = .returned (.bool true) ∧ Below w.heap.size w w' := by
  have CA := Lib.hid (alive6_any I)
  have ha1 : Below w.heap.size w (w.alloc (.cells #[.int .u32 (id : Int), .int .i64 mem, .int .i64 chunk, .int .i64 rows, .int .i64 log, .int .i64 heads] 24)) := (Below.refl _ _).alloc (Nat.le_refl _) _
  have ha2 : Below (w.alloc (.cells #[.int .u32 (id : Int), .int .i64 mem, .int .i64 chunk, .int .i64 rows, .int .i64 log, .int .i64 heads] 24)).heap.size (w.alloc (.cells #[.int .u32 (id : Int), .int .i64 mem, .int .i64 chunk, .int .i64 rows, .int .i64 log, .int .i64 heads] 24)) ((w.alloc (.cells #[.int .u32 (id : Int), .int .i64 mem, .int .i64 chunk, .int .i64 rows, .int .i64 log, .int .i64 heads] 24)).alloc (.cells #[.int .u32 (id' : Int), .int .i64 mem', .int .i64 chunk', .int .i64 rows', .int .i64 log', .int .i64 heads'] 24)) := (Below.refl _ _).alloc (Nat.le_refl _) _
  have B0 : Hid (Below w.heap.size w ((w.alloc (.cells #[.int .u32 (id : Int), .int .i64 mem, .int .i64 chunk, .int .i64 rows, .int .i64 log, .int .i64 heads] 24)).alloc (.cells #[.int .u32 (id' : Int), .int .i64 mem', .int .i64 chunk', .int .i64 rows', .int .i64 log', .int .i64 heads'] 24))) := thence ha1 ha2 (Nat.le_refl _)
  have BX := Lib.hid ((Bx.new w [.int .u32 (id : Int), .int .i64 mem, .int .i64 chunk, .int .i64 rows, .int .i64 log, .int .i64 heads] 24).here ha2)
  have BY : Hid (Bx ((w.alloc (.cells #[.int .u32 (id : Int), .int .i64 mem, .int .i64 chunk, .int .i64 rows, .int .i64 log, .int .i64 heads] 24)).alloc (.cells #[.int .u32 (id' : Int), .int .i64 mem', .int .i64 chunk', .int .i64 rows', .int .i64 log', .int .i64 heads'] 24)) (w.heap.size + 1) [.int .u32 (id' : Int), .int .i64 mem', .int .i64 chunk', .int .i64 rows', .int .i64 log', .int .i64 heads']) := by
    have h := Bx.new (w.alloc (.cells #[.int .u32 (id : Int), .int .i64 mem, .int .i64 chunk, .int .i64 rows, .int .i64 log, .int .i64 heads] 24)) [.int .u32 (id' : Int), .int .i64 mem', .int .i64 chunk', .int .i64 rows', .int .i64 log', .int .i64 heads'] 24
    have e : (w.alloc (.cells #[.int .u32 (id : Int), .int .i64 mem, .int .i64 chunk, .int .i64 rows, .int .i64 log, .int .i64 heads] 24)).heap.size = w.heap.size + 1 := by simp
    rw [e] at h
    exact h
  have HG : Hid (w.heap.size < (w.alloc (.cells #[.int .u32 (id : Int), .int .i64 mem, .int .i64 chunk, .int .i64 rows, .int .i64 log, .int .i64 heads] 24)).heap.size) := by show _ < _; simp
  clear ha1 ha2
  by_cases hm : Cfg.may ⟨id, mem, chunk, rows, log, heads⟩ = true
  case neg =>
    have hf : Cfg.may ⟨id, mem, chunk, rows, log, heads⟩ = false := by simpa using hm
    have hc : Cfg.code ⟨id, mem, chunk, rows, log, heads⟩ = 8 := SK.code_no hf
    have CC : Hid (∀ w1 : World, Calls Try.prog 10 #[.agg #[.int .u32 (id : Int), .int .i64 mem, .int .i64 chunk, .int .i64 rows, .int .i64 log, .int .i64 heads]] w1 fun e w' => e = .returned (.int .i64 8) ∧ Below w1.heap.size w1 w') := fun w1 => by have := I.check id mem chunk rows log heads w1; rw [hc] at this; exact this
    clear hm hc hf
    go_enter Try.func6, Try.ntmps6
    go_wp2_with fail
    refine (CA.out _).mono ?_
    rintro e w1 ⟨rfl, b1⟩
    have B1 := Lib.hid (thence B0.out b1 (Nat.le_refl _))
    have BX := Lib.hid (BX.out.here b1)
    have BY := Lib.hid (BY.out.here b1)
    obtain ⟨c0, c1, c2, c3, c4, c5⟩ := BX.out.six
    obtain ⟨d0, d1, d2, d3, d4, d5⟩ := BY.out.six
    clear b1 B0
    go_wp2_with fail
    refine (CC.out _).mono ?_
    rintro e w2 ⟨rfl, b2⟩
    have B2 := Lib.hid (thence B1.out b2 (Nat.le_refl _))
    clear c0 c1 c2 c3 c4 c5 d0 d1 d2 d3 d4 d5
    have BX := Lib.hid (BX.out.here b2)
    have BY := Lib.hid (BY.out.here b2)
    obtain ⟨c0, c1, c2, c3, c4, c5⟩ := BX.out.six
    obtain ⟨d0, d1, d2, d3, d4, d5⟩ := BY.out.six
    clear b2 B1
    go_wp2_with fail
    go_ret
    exact ⟨rfl, B2.out⟩
  have hc : Cfg.code ⟨id, mem, chunk, rows, log, heads⟩ = 0 := SK.code_yes hm
  have CC : Hid (∀ w1 : World, Calls Try.prog 10 #[.agg #[.int .u32 (id : Int), .int .i64 mem, .int .i64 chunk, .int .i64 rows, .int .i64 log, .int .i64 heads]] w1 fun e w' => e = .returned (.int .i64 0) ∧ Below w1.heap.size w1 w') := fun w1 => by have := I.check id mem chunk rows log heads w1; rw [hc] at this; exact this
  have Cstripes : Hid (∀ w1 : World, Calls Try.prog 11 #[.agg #[.int .u32 (id : Int), .int .i64 mem, .int .i64 chunk, .int .i64 rows, .int .i64 log, .int .i64 heads]] w1 fun e w' => e = .returned (.tuple #[.int .i64 (chunk * rows), .int .i64 0]) ∧ Below w1.heap.size w1 w') := fun w1 => by have := I.stripes id mem chunk rows log heads w1; rw [if_pos hm, hc] at this; exact this
  have Cblocks : Hid (∀ w1 : World, Calls Try.prog 12 #[.agg #[.int .u32 (id : Int), .int .i64 mem, .int .i64 chunk, .int .i64 rows, .int .i64 log, .int .i64 heads]] w1 fun e w' => e = .returned (.tuple #[.int .i64 (chunk * rows * (mem - 1)), .int .i64 0]) ∧ Below w1.heap.size w1 w') := fun w1 => by have := I.blocks id mem chunk rows log heads w1; rw [if_pos hm, hc] at this; exact this
  have Cneed : Hid (∀ w1 : World, Calls Try.prog 13 #[.agg #[.int .u32 (id : Int), .int .i64 mem, .int .i64 chunk, .int .i64 rows, .int .i64 log, .int .i64 heads]] w1 fun e w' => e = .returned (.tuple #[.int .i64 (mem + 1), .int .i64 0]) ∧ Below w1.heap.size w1 w') := fun w1 => by have := I.need id mem chunk rows log heads w1; rw [if_pos hm, hc] at this; exact this
  have Cmember : Hid (∀ w1 : World, Calls Try.prog 14 #[.agg #[.int .u32 (id : Int), .int .i64 mem, .int .i64 chunk, .int .i64 rows, .int .i64 log, .int .i64 heads]] w1 fun e w' => e = .returned (.tuple #[.int .i64 (chunk * rows + 1), .int .i64 0]) ∧ Below w1.heap.size w1 w') := fun w1 => by have := I.member id mem chunk rows log heads w1; rw [if_pos hm, hc] at this; exact this
  have Cjournal : Hid (∀ w1 : World, Calls Try.prog 15 #[.agg #[.int .u32 (id : Int), .int .i64 mem, .int .i64 chunk, .int .i64 rows, .int .i64 log, .int .i64 heads]] w1 fun e w' => e = .returned (.tuple #[.int .i64 (log + 1), .int .i64 0]) ∧ Below w1.heap.size w1 w') := fun w1 => by have := I.journal id mem chunk rows log heads w1; rw [if_pos hm, hc] at this; exact this
  have hp := SK.may_iff.1 hm
  have hs := SK.stripes_bd hp
  have hb := SK.blocks_bd hp
  have hr := SK.room_bd hp.1 hp.2.2.2.1
  unfold Cfg.blocks at hb
  unfold Cfg.stripes at hs hb
  dsimp only at hs hb hr
  have HP := Lib.hid hp
  obtain ⟨⟨k0, k1⟩, ⟨k2, k3⟩, ⟨k4, k5⟩, ⟨k6, k7⟩, k8, k9⟩ := hp
  obtain ⟨s0, s1⟩ := hs
  obtain ⟨t0, t1⟩ := hb
  dsimp only at k0 k1 k2 k3 k4 k5 k6 k7 k8 k9
  have k10 : 12 ≤ log := by omega
  have HM := Lib.hid hm
  clear hm hc
  by_cases hm : Cfg.may ⟨id', mem', chunk', rows', log', heads'⟩ = true
  case neg =>
    have hf : Cfg.may ⟨id', mem', chunk', rows', log', heads'⟩ = false := by simpa using hm
    have hc : Cfg.code ⟨id', mem', chunk', rows', log', heads'⟩ = 8 := SK.code_no hf
    have CD : Hid (∀ w1 : World, Calls Try.prog 10 #[.agg #[.int .u32 (id' : Int), .int .i64 mem', .int .i64 chunk', .int .i64 rows', .int .i64 log', .int .i64 heads']] w1 fun e w' => e = .returned (.int .i64 8) ∧ Below w1.heap.size w1 w') := fun w1 => by have := I.check id' mem' chunk' rows' log' heads' w1; rw [hc] at this; exact this
    clear hm hc hf
    go_enter Try.func6, Try.ntmps6
    go_wp2_with fail
    refine (CA.out _).mono ?_
    rintro e w1 ⟨rfl, b1⟩
    have B1 := Lib.hid (thence B0.out b1 (Nat.le_refl _))
    have BX := Lib.hid (BX.out.here b1)
    have BY := Lib.hid (BY.out.here b1)
    obtain ⟨c0, c1, c2, c3, c4, c5⟩ := BX.out.six
    obtain ⟨d0, d1, d2, d3, d4, d5⟩ := BY.out.six
    clear b1 B0
    go_wp2_with fail
    refine (CC.out _).mono ?_
    rintro e w2 ⟨rfl, b2⟩
    have B2 := Lib.hid (thence B1.out b2 (Nat.le_refl _))
    clear c0 c1 c2 c3 c4 c5 d0 d1 d2 d3 d4 d5
    have BX := Lib.hid (BX.out.here b2)
    have BY := Lib.hid (BY.out.here b2)
    obtain ⟨c0, c1, c2, c3, c4, c5⟩ := BX.out.six
    obtain ⟨d0, d1, d2, d3, d4, d5⟩ := BY.out.six
    clear b2 B1
    go_wp2_with fail
    refine (CD.out _).mono ?_
    rintro e w3 ⟨rfl, b3⟩
    have B3 := Lib.hid (thence B2.out b3 (Nat.le_refl _))
    clear c0 c1 c2 c3 c4 c5 d0 d1 d2 d3 d4 d5
    have BX := Lib.hid (BX.out.here b3)
    have BY := Lib.hid (BY.out.here b3)
    obtain ⟨c0, c1, c2, c3, c4, c5⟩ := BX.out.six
    obtain ⟨d0, d1, d2, d3, d4, d5⟩ := BY.out.six
    clear b3 B2
    go_wp2_with fail
    go_ret
    exact ⟨rfl, B3.out⟩
  have hc : Cfg.code ⟨id', mem', chunk', rows', log', heads'⟩ = 0 := SK.code_yes hm
  have CD : Hid (∀ w1 : World, Calls Try.prog 10 #[.agg #[.int .u32 (id' : Int), .int .i64 mem', .int .i64 chunk', .int .i64 rows', .int .i64 log', .int .i64 heads']] w1 fun e w' => e = .returned (.int .i64 0) ∧ Below w1.heap.size w1 w') := fun w1 => by have := I.check id' mem' chunk' rows' log' heads' w1; rw [hc] at this; exact this
  have Dstripes : Hid (∀ w1 : World, Calls Try.prog 11 #[.agg #[.int .u32 (id' : Int), .int .i64 mem', .int .i64 chunk', .int .i64 rows', .int .i64 log', .int .i64 heads']] w1 fun e w' => e = .returned (.tuple #[.int .i64 (chunk' * rows'), .int .i64 0]) ∧ Below w1.heap.size w1 w') := fun w1 => by have := I.stripes id' mem' chunk' rows' log' heads' w1; rw [if_pos hm, hc] at this; exact this
  have Dblocks : Hid (∀ w1 : World, Calls Try.prog 12 #[.agg #[.int .u32 (id' : Int), .int .i64 mem', .int .i64 chunk', .int .i64 rows', .int .i64 log', .int .i64 heads']] w1 fun e w' => e = .returned (.tuple #[.int .i64 (chunk' * rows' * (mem' - 1)), .int .i64 0]) ∧ Below w1.heap.size w1 w') := fun w1 => by have := I.blocks id' mem' chunk' rows' log' heads' w1; rw [if_pos hm, hc] at this; exact this
  have Dneed : Hid (∀ w1 : World, Calls Try.prog 13 #[.agg #[.int .u32 (id' : Int), .int .i64 mem', .int .i64 chunk', .int .i64 rows', .int .i64 log', .int .i64 heads']] w1 fun e w' => e = .returned (.tuple #[.int .i64 (mem' + 1), .int .i64 0]) ∧ Below w1.heap.size w1 w') := fun w1 => by have := I.need id' mem' chunk' rows' log' heads' w1; rw [if_pos hm, hc] at this; exact this
  have Dmember : Hid (∀ w1 : World, Calls Try.prog 14 #[.agg #[.int .u32 (id' : Int), .int .i64 mem', .int .i64 chunk', .int .i64 rows', .int .i64 log', .int .i64 heads']] w1 fun e w' => e = .returned (.tuple #[.int .i64 (chunk' * rows' + 1), .int .i64 0]) ∧ Below w1.heap.size w1 w') := fun w1 => by have := I.member id' mem' chunk' rows' log' heads' w1; rw [if_pos hm, hc] at this; exact this
  have Djournal : Hid (∀ w1 : World, Calls Try.prog 15 #[.agg #[.int .u32 (id' : Int), .int .i64 mem', .int .i64 chunk', .int .i64 rows', .int .i64 log', .int .i64 heads']] w1 fun e w' => e = .returned (.tuple #[.int .i64 (log' + 1), .int .i64 0]) ∧ Below w1.heap.size w1 w') := fun w1 => by have := I.journal id' mem' chunk' rows' log' heads' w1; rw [if_pos hm, hc] at this; exact this
  have hp := SK.may_iff.1 hm
  have hs := SK.stripes_bd hp
  have hb := SK.blocks_bd hp
  have hr := SK.room_bd hp.1 hp.2.2.2.1
  unfold Cfg.blocks at hb
  unfold Cfg.stripes at hs hb
  dsimp only at hs hb hr
  have HQ := Lib.hid hp
  obtain ⟨⟨j0, j1⟩, ⟨j2, j3⟩, ⟨j4, j5⟩, ⟨j6, j7⟩, j8, j9⟩ := hp
  obtain ⟨s2, s3⟩ := hs
  obtain ⟨t2, t3⟩ := hb
  dsimp only at j0 j1 j2 j3 j4 j5 j6 j7 j8 j9
  have j10 : 12 ≤ log' := by omega
  clear hm hc
  have AP := Lib.hid (SK.apart HP.out HQ.out)
  go_enter Try.func6, Try.ntmps6
  go_wp2_with fail
  refine (CA.out _).mono ?_
  rintro e w1 ⟨rfl, b1⟩
  have B1 := Lib.hid (thence B0.out b1 (Nat.le_refl _))
  have BX := Lib.hid (BX.out.here b1)
  have BY := Lib.hid (BY.out.here b1)
  obtain ⟨c0, c1, c2, c3, c4, c5⟩ := BX.out.six
  obtain ⟨d0, d1, d2, d3, d4, d5⟩ := BY.out.six
  clear b1 B0
  go_wp2_with fail
  refine (CC.out _).mono ?_
  rintro e w2 ⟨rfl, b2⟩
  have B2 := Lib.hid (thence B1.out b2 (Nat.le_refl _))
  clear c0 c1 c2 c3 c4 c5 d0 d1 d2 d3 d4 d5
  have BX := Lib.hid (BX.out.here b2)
  have BY := Lib.hid (BY.out.here b2)
  obtain ⟨c0, c1, c2, c3, c4, c5⟩ := BX.out.six
  obtain ⟨d0, d1, d2, d3, d4, d5⟩ := BY.out.six
  clear b2 B1
  go_wp2_with fail
  refine (CD.out _).mono ?_
  rintro e w3 ⟨rfl, b3⟩
  have B3 := Lib.hid (thence B2.out b3 (Nat.le_refl _))
  clear c0 c1 c2 c3 c4 c5 d0 d1 d2 d3 d4 d5
  have BX := Lib.hid (BX.out.here b3)
  have BY := Lib.hid (BY.out.here b3)
  obtain ⟨c0, c1, c2, c3, c4, c5⟩ := BX.out.six
  obtain ⟨d0, d1, d2, d3, d4, d5⟩ := BY.out.six
  clear b3 B2
  go_wp2_with fail
  refine (Cstripes.out _).mono ?_
  rintro e w4 ⟨rfl, b4⟩
  have B4 := Lib.hid (thence B3.out b4 (Nat.le_refl _))
  clear c0 c1 c2 c3 c4 c5 d0 d1 d2 d3 d4 d5
  have BX := Lib.hid (BX.out.here b4)
  have BY := Lib.hid (BY.out.here b4)
  obtain ⟨c0, c1, c2, c3, c4, c5⟩ := BX.out.six
  obtain ⟨d0, d1, d2, d3, d4, d5⟩ := BY.out.six
  clear b4 B3
  go_wp2_with fail
  refine (Dstripes.out _).mono ?_
  rintro e w5 ⟨rfl, b5⟩
  have B5 := Lib.hid (thence B4.out b5 (Nat.le_refl _))
  clear c0 c1 c2 c3 c4 c5 d0 d1 d2 d3 d4 d5
  have BX := Lib.hid (BX.out.here b5)
  have BY := Lib.hid (BY.out.here b5)
  obtain ⟨c0, c1, c2, c3, c4, c5⟩ := BX.out.six
  obtain ⟨d0, d1, d2, d3, d4, d5⟩ := BY.out.six
  clear b5 B4
  go_wp2_with fail
  refine (Cblocks.out _).mono ?_
  rintro e w6 ⟨rfl, b6⟩
  have B6 := Lib.hid (thence B5.out b6 (Nat.le_refl _))
  clear c0 c1 c2 c3 c4 c5 d0 d1 d2 d3 d4 d5
  have BX := Lib.hid (BX.out.here b6)
  have BY := Lib.hid (BY.out.here b6)
  obtain ⟨c0, c1, c2, c3, c4, c5⟩ := BX.out.six
  obtain ⟨d0, d1, d2, d3, d4, d5⟩ := BY.out.six
  clear b6 B5
  go_wp2_with fail
  refine (Dblocks.out _).mono ?_
  rintro e w7 ⟨rfl, b7⟩
  have B7 := Lib.hid (thence B6.out b7 (Nat.le_refl _))
  clear c0 c1 c2 c3 c4 c5 d0 d1 d2 d3 d4 d5
  have BX := Lib.hid (BX.out.here b7)
  have BY := Lib.hid (BY.out.here b7)
  obtain ⟨c0, c1, c2, c3, c4, c5⟩ := BX.out.six
  obtain ⟨d0, d1, d2, d3, d4, d5⟩ := BY.out.six
  clear b7 B6
  go_wp2_with fail
  refine (Cjournal.out _).mono ?_
  rintro e w8 ⟨rfl, b8⟩
  have B8 := Lib.hid (thence B7.out b8 (Nat.le_refl _))
  clear c0 c1 c2 c3 c4 c5 d0 d1 d2 d3 d4 d5
  have BX := Lib.hid (BX.out.here b8)
  have BY := Lib.hid (BY.out.here b8)
  obtain ⟨c0, c1, c2, c3, c4, c5⟩ := BX.out.six
  obtain ⟨d0, d1, d2, d3, d4, d5⟩ := BY.out.six
  clear b8 B7
  go_wp2_with fail
  refine (Djournal.out _).mono ?_
  rintro e w9 ⟨rfl, b9⟩
  have B9 := Lib.hid (thence B8.out b9 (Nat.le_refl _))
  clear c0 c1 c2 c3 c4 c5 d0 d1 d2 d3 d4 d5
  have BX := Lib.hid (BX.out.here b9)
  have BY := Lib.hid (BY.out.here b9)
  obtain ⟨c0, c1, c2, c3, c4, c5⟩ := BX.out.six
  obtain ⟨d0, d1, d2, d3, d4, d5⟩ := BY.out.six
  clear b9 B8
  have fz := BX.out.frozen 0
  have HF : Hid (Below w.heap.size w (w9.setCell ⟨w.heap.size, 0, none⟩ (.int .u32 (id' : Int)))) := B9.out.setCell (Nat.le_refl _) _
  by_cases e1 : chunk * rows = chunk' * rows'
  case neg =>
    have f1 : ((chunk * rows : Int) == chunk' * rows') = false := beq_eq_false_iff_ne.2 e1
    go_wp2_with fail
    all_goals first
      | (exfalso; refine e1 ?_; congr 1 <;> assumption)
      | (go_ret; exact ⟨rfl, HF.out⟩)
  have f1 : ((chunk * rows : Int) == chunk' * rows') = true := beq_iff_eq.2 e1
  by_cases e2 : mem = mem'
  case neg =>
    have f2 : ((chunk * rows * (mem - 1) : Int) == chunk' * rows' * (mem' - 1)) = false := beq_eq_false_iff_ne.2 (fun h => e2 (by rw [e1] at h; have := Int.eq_of_mul_eq_mul_left (by omega) h; omega))
    have E1 := Lib.hid e1
    clear e1
    go_wp2_with fail
    all_goals first
      | (exfalso; exact absurd (by assumption) e2)
      | (go_ret; exact ⟨rfl, HF.out⟩)
  have f2 : ((chunk * rows * (mem - 1) : Int) == chunk' * rows' * (mem' - 1)) = true := beq_iff_eq.2 (by rw [e1, e2])
  by_cases e3 : log = log'
  case neg =>
    have f3 : ((log + 1 : Int) == log' + 1) = false := beq_eq_false_iff_ne.2 (by omega)
    clear e1 e2
    go_wp2_with fail
    all_goals first
      | (exfalso; exact absurd (by assumption) e3)
      | (go_ret; exact ⟨rfl, HF.out⟩)
  have f3 : ((log + 1 : Int) == log' + 1) = true := beq_iff_eq.2 (by rw [e3])
  by_cases e4 : heads = heads'
  case neg =>
    have f4 : ((heads : Int) == heads') = false := beq_eq_false_iff_ne.2 e4
    clear e1 e2 e3
    go_wp2_with fail
    all_goals first
      | (exfalso; exact absurd (by assumption) e4)
      | (go_ret; exact ⟨rfl, HF.out⟩)
  by_cases e5 : chunk = chunk'
  case neg =>
    have f4 : ((heads : Int) == heads') = true := beq_iff_eq.2 e4
    have f5 : ((chunk : Int) == chunk') = false := beq_eq_false_iff_ne.2 e5
    clear e1 e2 e3 e4
    go_wp2_with fail
    all_goals first
      | (exfalso; exact absurd (by assumption) e5)
      | (go_ret; exact ⟨rfl, HF.out⟩)
  obtain ⟨-, e6⟩ := AP.out e1 (by show chunk * rows * (mem - 1) = chunk' * rows' * (mem' - 1); rw [e1, e2]) e3 e4 e5
  clear e1 f1 f2 f3 AP HP HQ
  subst e2 e3 e4 e5 e6
  go_wp2_with fail
  go_ret
  exact ⟨rfl, HF.out⟩

set_option maxHeartbeats 2000000 in
theorem shapeMore_walk (I : ShapeIs) (id : Nat) (mem chunk rows log heads : Int) (m f : Nat) (w : World) (hm8 : m < 256) (hf8 : f < 256) :
    Calls Try.prog 7 #[.agg #[.int .u32 (id : Int), .int .i64 mem, .int .i64 chunk, .int .i64 rows, .int .i64 log, .int .i64 heads], .int .u8 (m : Int), .int .u8 (f : Int)] w fun e w' => e = .returned (.bool true) ∧ Below w.heap.size w w' := by
  have B0 : Hid (Below w.heap.size w (w.alloc (.cells #[.int .u32 (id : Int), .int .i64 mem, .int .i64 chunk, .int .i64 rows, .int .i64 log, .int .i64 heads] 24))) := (Below.refl _ _).alloc (Nat.le_refl _) _
  have BX := Lib.hid (Bx.new w [.int .u32 (id : Int), .int .i64 mem, .int .i64 chunk, .int .i64 rows, .int .i64 log, .int .i64 heads] 24)
  have CA := Lib.hid (alive6_any I)
  by_cases hm : Cfg.may ⟨id, mem, chunk, rows, log, heads⟩ = true
  case neg =>
    have hf : Cfg.may ⟨id, mem, chunk, rows, log, heads⟩ = false := by simpa using hm
    have hc : Cfg.code ⟨id, mem, chunk, rows, log, heads⟩ = 8 := SK.code_no hf
    have CC : Hid (∀ w1 : World, Calls Try.prog 10 #[.agg #[.int .u32 (id : Int), .int .i64 mem, .int .i64 chunk, .int .i64 rows, .int .i64 log, .int .i64 heads]] w1 fun e w' => e = .returned (.int .i64 8) ∧ Below w1.heap.size w1 w') := fun w1 => by have := I.check id mem chunk rows log heads w1; rw [hc] at this; exact this
    clear hm hc hf
    go_enter Try.func7, Try.ntmps7
    go_wp2_with fail
    refine (CA.out _).mono ?_
    rintro e w1 ⟨rfl, b1⟩
    have B1 := Lib.hid (thence B0.out b1 (Nat.le_refl _))
    have BX := Lib.hid (BX.out.here b1)
    obtain ⟨c0, c1, c2, c3, c4, c5⟩ := BX.out.six
    clear b1 B0
    go_wp2_with fail
    refine (CC.out _).mono ?_
    rintro e w2 ⟨rfl, b2⟩
    have B2 := Lib.hid (thence B1.out b2 (Nat.le_refl _))
    clear c0 c1 c2 c3 c4 c5
    have BX := Lib.hid (BX.out.here b2)
    obtain ⟨c0, c1, c2, c3, c4, c5⟩ := BX.out.six
    clear b2 B1
    go_wp2_with fail
    go_ret
    exact ⟨rfl, B2.out⟩
  have hc : Cfg.code ⟨id, mem, chunk, rows, log, heads⟩ = 0 := SK.code_yes hm
  have CC : Hid (∀ w1 : World, Calls Try.prog 10 #[.agg #[.int .u32 (id : Int), .int .i64 mem, .int .i64 chunk, .int .i64 rows, .int .i64 log, .int .i64 heads]] w1 fun e w' => e = .returned (.int .i64 0) ∧ Below w1.heap.size w1 w') := fun w1 => by have := I.check id mem chunk rows log heads w1; rw [hc] at this; exact this
  have hp := SK.may_iff.1 hm
  have hs := SK.stripes_bd hp
  have hb := SK.blocks_bd hp
  have hr := SK.room_bd hp.1 hp.2.2.2.1
  unfold Cfg.blocks at hb
  unfold Cfg.stripes at hs hb
  dsimp only at hs hb hr
  have HP := Lib.hid hp
  obtain ⟨⟨k0, k1⟩, ⟨k2, k3⟩, ⟨k4, k5⟩, ⟨k6, k7⟩, k8, k9⟩ := hp
  obtain ⟨s0, s1⟩ := hs
  obtain ⟨t0, t1⟩ := hb
  dsimp only at k0 k1 k2 k3 k4 k5 k6 k7 k8 k9
  have k10 : 12 ≤ log := by omega
  have hmo := SK.may_iff.2 (SK.more HP.out (m := (m : Int)) (f := (f : Int)) (by omega) (by omega))
  have CD : Hid (∀ lg hd : Int, lg = min (log + (m : Int)) 255 → hd = max (heads - (f : Int)) 2 → ∀ w1 : World, Calls Try.prog 10 #[.agg #[.int .u32 (id : Int), .int .i64 mem, .int .i64 chunk, .int .i64 rows, .int .i64 lg, .int .i64 hd]] w1 fun e w' => e = .returned (.int .i64 0) ∧ Below w1.heap.size w1 w') := fun lg hd e1 e2 w1 => by
    subst e1 e2
    have := I.check id mem chunk rows (min (log + (m : Int)) 255) (max (heads - (f : Int)) 2) w1
    rw [SK.code_yes hmo] at this
    exact this
  clear hm hc hmo
  go_enter Try.func7, Try.ntmps7
  go_wp2_with fail
  refine (CA.out _).mono ?_
  rintro e w1 ⟨rfl, b1⟩
  have B1 := Lib.hid (thence B0.out b1 (Nat.le_refl _))
  have BX := Lib.hid (BX.out.here b1)
  obtain ⟨c0, c1, c2, c3, c4, c5⟩ := BX.out.six
  clear b1 B0
  go_wp2_with fail
  refine (CC.out _).mono ?_
  rintro e w2 ⟨rfl, b2⟩
  have B2 := Lib.hid (thence B1.out b2 (Nat.le_refl _))
  clear c0 c1 c2 c3 c4 c5
  have BX := Lib.hid (BX.out.here b2)
  obtain ⟨c0, c1, c2, c3, c4, c5⟩ := BX.out.six
  clear b2 B1
  have hgz : w.heap.size < w2.heap.size := BX.out.lt
  have HB := B2.out
  by_cases g1 : log + (m : Int) ≤ 255
  all_goals by_cases g2 : 2 ≤ heads - (f : Int)
  all_goals
    go_wp2_with fail
    refine (CD.out _ _ (by omega) (by omega) _).mono ?_
    rintro e w3 ⟨rfl, b3⟩
    have B3 := Lib.hid (thence ((B2.out.alloc B2.out.size _)) b3 (Nat.le_refl _))
    clear b3
    go_wp2_with fail
    go_ret
    exact ⟨rfl, B3.out⟩
end Go.Proofs.Ytonaielambgedaa.PW
