/-
  The walk of a law of layer 8 (SplitMutual), given what the program's calls answer.
-/
import Derived.Test.YtbhehicfenkbcaaSplitLaws
namespace Go.Proofs.Ytbhehicfenkbcaa.PW
open Go.RowKit
open SK (Cfg)
set_option linter.unusedVariables false
set_option linter.unusedSimpArgs false
set_option maxRecDepth 100000

set_option maxHeartbeats 4000000 in
theorem splitMutual_walk (I : SplitIs) (id : Nat) (mem chunk rows log heads : Int) (k : Nat) (at_ many : Int) (da : Option Addr) (dn dc : Nat) (k' : Nat) (at_' many' : Int) (da' : Option Addr) (dn' dc' : Nat) (w : World) (hs : dn ≤ 9223372036854775807) (hs' : dn' ≤ 9223372036854775807) :
    Calls Try.prog 6 #[.agg #[.int .u32 (id : Int), .int .i64 mem, .int .i64 chunk, .int .i64 rows, .int .i64 log, .int .i64 heads], .agg #[.int .u8 (k : Int), .int .i64 at_, .int .i64 many, .slice da dn dc], .agg #[.int .u8 (k' : Int), .int .i64 at_', .int .i64 many', .slice da' dn' dc']] w fun e w' => e = .returned (.bool true) ∧ Below w.heap.size w w' := by
  have ha1 : Below w.heap.size w (w.alloc (.cells #[.int .u32 (id : Int), .int .i64 mem, .int .i64 chunk, .int .i64 rows, .int .i64 log, .int .i64 heads] 24)) := (Below.refl _ _).alloc (Nat.le_refl _) _
  have ha2 : Below (w.alloc (.cells #[.int .u32 (id : Int), .int .i64 mem, .int .i64 chunk, .int .i64 rows, .int .i64 log, .int .i64 heads] 24)).heap.size (w.alloc (.cells #[.int .u32 (id : Int), .int .i64 mem, .int .i64 chunk, .int .i64 rows, .int .i64 log, .int .i64 heads] 24)) ((w.alloc (.cells #[.int .u32 (id : Int), .int .i64 mem, .int .i64 chunk, .int .i64 rows, .int .i64 log, .int .i64 heads] 24)).alloc (.cells #[.int .u8 (k : Int), .int .i64 at_, .int .i64 many, .slice da dn dc] 32)) := (Below.refl _ _).alloc (Nat.le_refl _) _
  have ha3 : Below ((w.alloc (.cells #[.int .u32 (id : Int), .int .i64 mem, .int .i64 chunk, .int .i64 rows, .int .i64 log, .int .i64 heads] 24)).alloc (.cells #[.int .u8 (k : Int), .int .i64 at_, .int .i64 many, .slice da dn dc] 32)).heap.size ((w.alloc (.cells #[.int .u32 (id : Int), .int .i64 mem, .int .i64 chunk, .int .i64 rows, .int .i64 log, .int .i64 heads] 24)).alloc (.cells #[.int .u8 (k : Int), .int .i64 at_, .int .i64 many, .slice da dn dc] 32)) (((w.alloc (.cells #[.int .u32 (id : Int), .int .i64 mem, .int .i64 chunk, .int .i64 rows, .int .i64 log, .int .i64 heads] 24)).alloc (.cells #[.int .u8 (k : Int), .int .i64 at_, .int .i64 many, .slice da dn dc] 32)).alloc (.cells #[.int .u8 (k' : Int), .int .i64 at_', .int .i64 many', .slice da' dn' dc'] 32)) := (Below.refl _ _).alloc (Nat.le_refl _) _
  have B0 : Hid (Below w.heap.size w (((w.alloc (.cells #[.int .u32 (id : Int), .int .i64 mem, .int .i64 chunk, .int .i64 rows, .int .i64 log, .int .i64 heads] 24)).alloc (.cells #[.int .u8 (k : Int), .int .i64 at_, .int .i64 many, .slice da dn dc] 32)).alloc (.cells #[.int .u8 (k' : Int), .int .i64 at_', .int .i64 many', .slice da' dn' dc'] 32))) := thence (thence ha1 ha2 (Nat.le_refl _)) ha3 (Nat.le_refl _)
  have BX : Hid (Bx (((w.alloc (.cells #[.int .u32 (id : Int), .int .i64 mem, .int .i64 chunk, .int .i64 rows, .int .i64 log, .int .i64 heads] 24)).alloc (.cells #[.int .u8 (k : Int), .int .i64 at_, .int .i64 many, .slice da dn dc] 32)).alloc (.cells #[.int .u8 (k' : Int), .int .i64 at_', .int .i64 many', .slice da' dn' dc'] 32)) w.heap.size [.int .u32 (id : Int), .int .i64 mem, .int .i64 chunk, .int .i64 rows, .int .i64 log, .int .i64 heads]) := ((Bx.new w [.int .u32 (id : Int), .int .i64 mem, .int .i64 chunk, .int .i64 rows, .int .i64 log, .int .i64 heads] 24).here ha2).here ha3
  have BY : Hid (Bx (((w.alloc (.cells #[.int .u32 (id : Int), .int .i64 mem, .int .i64 chunk, .int .i64 rows, .int .i64 log, .int .i64 heads] 24)).alloc (.cells #[.int .u8 (k : Int), .int .i64 at_, .int .i64 many, .slice da dn dc] 32)).alloc (.cells #[.int .u8 (k' : Int), .int .i64 at_', .int .i64 many', .slice da' dn' dc'] 32)) (w.heap.size + 1) [.int .u8 (k : Int), .int .i64 at_, .int .i64 many, .slice da dn dc]) := by
    have h := (Bx.new (w.alloc (.cells #[.int .u32 (id : Int), .int .i64 mem, .int .i64 chunk, .int .i64 rows, .int .i64 log, .int .i64 heads] 24)) [.int .u8 (k : Int), .int .i64 at_, .int .i64 many, .slice da dn dc] 32).here ha3
    have e : (w.alloc (.cells #[.int .u32 (id : Int), .int .i64 mem, .int .i64 chunk, .int .i64 rows, .int .i64 log, .int .i64 heads] 24)).heap.size = w.heap.size + 1 := by simp
    rw [e] at h
    exact h
  have BZ : Hid (Bx (((w.alloc (.cells #[.int .u32 (id : Int), .int .i64 mem, .int .i64 chunk, .int .i64 rows, .int .i64 log, .int .i64 heads] 24)).alloc (.cells #[.int .u8 (k : Int), .int .i64 at_, .int .i64 many, .slice da dn dc] 32)).alloc (.cells #[.int .u8 (k' : Int), .int .i64 at_', .int .i64 many', .slice da' dn' dc'] 32)) (w.heap.size + 1 + 1) [.int .u8 (k' : Int), .int .i64 at_', .int .i64 many', .slice da' dn' dc']) := by
    have h := Bx.new ((w.alloc (.cells #[.int .u32 (id : Int), .int .i64 mem, .int .i64 chunk, .int .i64 rows, .int .i64 log, .int .i64 heads] 24)).alloc (.cells #[.int .u8 (k : Int), .int .i64 at_, .int .i64 many, .slice da dn dc] 32)) [.int .u8 (k' : Int), .int .i64 at_', .int .i64 many', .slice da' dn' dc'] 32
    have e : ((w.alloc (.cells #[.int .u32 (id : Int), .int .i64 mem, .int .i64 chunk, .int .i64 rows, .int .i64 log, .int .i64 heads] 24)).alloc (.cells #[.int .u8 (k : Int), .int .i64 at_, .int .i64 many, .slice da dn dc] 32)).heap.size = w.heap.size + 1 + 1 := by simp
    rw [e] at h
    exact h
  clear ha1 ha2 ha3
  have CA := Lib.hid (alive8_any I)
  have C1 := Lib.hid (I.check id mem chunk rows log heads k at_ many da dn dc)
  have C2 := Lib.hid (I.check id mem chunk rows log heads k' at_' many' da' dn' dc')
  obtain ⟨q1, hq1⟩ : ∃ q, QK.code ⟨id, mem, chunk, rows, log, heads⟩ k at_ many dn = q := ⟨_, rfl⟩
  obtain ⟨q2, hq2⟩ : ∃ q, QK.code ⟨id, mem, chunk, rows, log, heads⟩ k' at_' many' dn' = q := ⟨_, rfl⟩
  rw [hq1] at C1
  rw [hq2] at C2
  by_cases g1 : 5000 < dn
  · have i1 : (5000 : Int) < (dn : Int) := by omega
    clear g1 hq1 hq2
    go_enter Try.func6, Try.ntmps6
    go_wp2_with fail
    (with_reducible refine (CA.out _).mono ?_)
    rintro e w1 ⟨rfl, b1⟩
    replace BX := Lib.hid (BX.out.here b1)
    replace BY := Lib.hid (BY.out.here b1)
    replace BZ := Lib.hid (BZ.out.here b1)
    have B1 := Lib.hid (thence B0.out b1 (Nat.le_refl _))
    clear b1 B0
    obtain ⟨c0, c1, c2, c3, c4, c5⟩ := BX.out.six
    have ltBX := BX.out.lt
    obtain ⟨y0, y1, y2, y3⟩ := BY.out.four
    have ltBY := BY.out.lt
    obtain ⟨z0, z1, z2, z3⟩ := BZ.out.four
    have ltBZ := BZ.out.lt
    go_wp2_with fail
    go_ret
    exact ⟨rfl, B1.out⟩
  have i1 : ¬ (5000 : Int) < (dn : Int) := by omega
  by_cases g2 : 5000 < dn'
  · have i2 : (5000 : Int) < (dn' : Int) := by omega
    clear g1 g2 hq1 hq2
    go_enter Try.func6, Try.ntmps6
    go_wp2_with fail
    (with_reducible refine (CA.out _).mono ?_)
    rintro e w1 ⟨rfl, b1⟩
    replace BX := Lib.hid (BX.out.here b1)
    replace BY := Lib.hid (BY.out.here b1)
    replace BZ := Lib.hid (BZ.out.here b1)
    have B1 := Lib.hid (thence B0.out b1 (Nat.le_refl _))
    clear b1 B0
    obtain ⟨c0, c1, c2, c3, c4, c5⟩ := BX.out.six
    have ltBX := BX.out.lt
    obtain ⟨y0, y1, y2, y3⟩ := BY.out.four
    have ltBY := BY.out.lt
    obtain ⟨z0, z1, z2, z3⟩ := BZ.out.four
    have ltBZ := BZ.out.lt
    go_wp2_with fail
    go_ret
    exact ⟨rfl, B1.out⟩
  have i2 : ¬ (5000 : Int) < (dn' : Int) := by omega
  by_cases g3 : q1 = 0
  case neg =>
    have t0 : ((q1 : Int) == 0) = false := beq_eq_false_iff_ne.2 (by omega)
    have t1 : ((q1 : Int) != 0) = true := by rw [bne, t0]; rfl
    clear g1 g2 g3 hq1 hq2
    go_enter Try.func6, Try.ntmps6
    go_wp2_with fail
    (with_reducible refine (CA.out _).mono ?_)
    rintro e w1 ⟨rfl, b1⟩
    replace BX := Lib.hid (BX.out.here b1)
    replace BY := Lib.hid (BY.out.here b1)
    replace BZ := Lib.hid (BZ.out.here b1)
    have B1 := Lib.hid (thence B0.out b1 (Nat.le_refl _))
    clear b1 B0
    obtain ⟨c0, c1, c2, c3, c4, c5⟩ := BX.out.six
    have ltBX := BX.out.lt
    obtain ⟨y0, y1, y2, y3⟩ := BY.out.four
    have ltBY := BY.out.lt
    obtain ⟨z0, z1, z2, z3⟩ := BZ.out.four
    have ltBZ := BZ.out.lt
    go_wp2_with fail
    (with_reducible refine (C1.out _).mono ?_)
    rintro e w2 ⟨rfl, b2⟩
    clear c0 c1 c2 c3 c4 c5 y0 y1 y2 y3 z0 z1 z2 z3 ltBX ltBY ltBZ
    replace BX := Lib.hid (BX.out.here b2)
    replace BY := Lib.hid (BY.out.here b2)
    replace BZ := Lib.hid (BZ.out.here b2)
    have B2 := Lib.hid (thence B1.out b2 (Nat.le_refl _))
    clear b2 B1
    obtain ⟨c0, c1, c2, c3, c4, c5⟩ := BX.out.six
    have ltBX := BX.out.lt
    obtain ⟨y0, y1, y2, y3⟩ := BY.out.four
    have ltBY := BY.out.lt
    obtain ⟨z0, z1, z2, z3⟩ := BZ.out.four
    have ltBZ := BZ.out.lt
    go_wp2_with fail
    go_ret
    exact ⟨rfl, B2.out⟩
  subst g3
  by_cases g4 : q2 = 0
  case neg =>
    have t0 : ((q2 : Int) == 0) = false := beq_eq_false_iff_ne.2 (by omega)
    have t1 : ((q2 : Int) != 0) = true := by rw [bne, t0]; rfl
    clear g1 g2 g4 hq1 hq2
    go_enter Try.func6, Try.ntmps6
    go_wp2_with fail
    (with_reducible refine (CA.out _).mono ?_)
    rintro e w1 ⟨rfl, b1⟩
    replace BX := Lib.hid (BX.out.here b1)
    replace BY := Lib.hid (BY.out.here b1)
    replace BZ := Lib.hid (BZ.out.here b1)
    have B1 := Lib.hid (thence B0.out b1 (Nat.le_refl _))
    clear b1 B0
    obtain ⟨c0, c1, c2, c3, c4, c5⟩ := BX.out.six
    have ltBX := BX.out.lt
    obtain ⟨y0, y1, y2, y3⟩ := BY.out.four
    have ltBY := BY.out.lt
    obtain ⟨z0, z1, z2, z3⟩ := BZ.out.four
    have ltBZ := BZ.out.lt
    go_wp2_with fail
    (with_reducible refine (C1.out _).mono ?_)
    rintro e w2 ⟨rfl, b2⟩
    clear c0 c1 c2 c3 c4 c5 y0 y1 y2 y3 z0 z1 z2 z3 ltBX ltBY ltBZ
    replace BX := Lib.hid (BX.out.here b2)
    replace BY := Lib.hid (BY.out.here b2)
    replace BZ := Lib.hid (BZ.out.here b2)
    have B2 := Lib.hid (thence B1.out b2 (Nat.le_refl _))
    clear b2 B1
    obtain ⟨c0, c1, c2, c3, c4, c5⟩ := BX.out.six
    have ltBX := BX.out.lt
    obtain ⟨y0, y1, y2, y3⟩ := BY.out.four
    have ltBY := BY.out.lt
    obtain ⟨z0, z1, z2, z3⟩ := BZ.out.four
    have ltBZ := BZ.out.lt
    go_wp2_with fail
    (with_reducible refine (C2.out _).mono ?_)
    rintro e w3 ⟨rfl, b3⟩
    clear c0 c1 c2 c3 c4 c5 y0 y1 y2 y3 z0 z1 z2 z3 ltBX ltBY ltBZ
    replace BX := Lib.hid (BX.out.here b3)
    replace BY := Lib.hid (BY.out.here b3)
    replace BZ := Lib.hid (BZ.out.here b3)
    have B3 := Lib.hid (thence B2.out b3 (Nat.le_refl _))
    clear b3 B2
    obtain ⟨c0, c1, c2, c3, c4, c5⟩ := BX.out.six
    have ltBX := BX.out.lt
    obtain ⟨y0, y1, y2, y3⟩ := BY.out.four
    have ltBY := BY.out.lt
    obtain ⟨z0, z1, z2, z3⟩ := BZ.out.four
    have ltBZ := BZ.out.lt
    go_wp2_with fail
    go_ret
    exact ⟨rfl, B3.out⟩
  subst g4
  have p1 := QK.code_iff.1 hq1
  have p2 := QK.code_iff.1 hq2
  have T1 : Hid (∀ w1, Calls Try.prog 12 #[.agg #[.int .u32 (id : Int), .int .i64 mem, .int .i64 chunk, .int .i64 rows, .int .i64 log, .int .i64 heads], .agg #[.int .u8 (k : Int), .int .i64 at_, .int .i64 many, .slice da dn dc], .agg #[.int .u8 (k' : Int), .int .i64 at_', .int .i64 many', .slice da' dn' dc']] w1 fun e w' => e = .returned (.tuple #[.bool (QK.meet k at_ many k' at_' many'), .int .i64 0]) ∧ Below w1.heap.size w1 w') := fun w1 => by
    have := I.touch id mem chunk rows log heads k at_ many da dn dc k' at_' many' da' dn' dc' w1
    have ht : QK.tcode ⟨id, mem, chunk, rows, log, heads⟩ k at_ many dn k' at_' many' dn' = 0 := by simp [QK.tcode, hq1, hq2]
    rw [if_pos ht, ht] at this
    exact this
  have T2 : Hid (∀ w1, Calls Try.prog 12 #[.agg #[.int .u32 (id : Int), .int .i64 mem, .int .i64 chunk, .int .i64 rows, .int .i64 log, .int .i64 heads], .agg #[.int .u8 (k' : Int), .int .i64 at_', .int .i64 many', .slice da' dn' dc'], .agg #[.int .u8 (k : Int), .int .i64 at_, .int .i64 many, .slice da dn dc]] w1 fun e w' => e = .returned (.tuple #[.bool (QK.meet k' at_' many' k at_ many), .int .i64 0]) ∧ Below w1.heap.size w1 w') := fun w1 => by
    have := I.touch id mem chunk rows log heads k' at_' many' da' dn' dc' k at_ many da dn dc w1
    have ht : QK.tcode ⟨id, mem, chunk, rows, log, heads⟩ k' at_' many' dn' k at_ many dn = 0 := by simp [QK.tcode, hq2, hq1]
    rw [if_pos ht, ht] at this
    exact this
  have T3 : Hid (∀ w1, Calls Try.prog 12 #[.agg #[.int .u32 (id : Int), .int .i64 mem, .int .i64 chunk, .int .i64 rows, .int .i64 log, .int .i64 heads], .agg #[.int .u8 (k : Int), .int .i64 at_, .int .i64 many, .slice da dn dc], .agg #[.int .u8 (k : Int), .int .i64 at_, .int .i64 many, .slice da dn dc]] w1 fun e w' => e = .returned (.tuple #[.bool (QK.meet k at_ many k at_ many), .int .i64 0]) ∧ Below w1.heap.size w1 w') := fun w1 => by
    have := I.touch id mem chunk rows log heads k at_ many da dn dc k at_ many da dn dc w1
    have ht : QK.tcode ⟨id, mem, chunk, rows, log, heads⟩ k at_ many dn k at_ many dn = 0 := by simp [QK.tcode, hq1, hq1]
    rw [if_pos ht, ht] at this
    exact this
  have HC := QK.meet_comm (k := k) (at_ := at_) (many := many) (k' := k') (at' := at_') (many' := many')
  rw [← HC] at T2
  have HS := QK.meet_self p1.2.1
  rw [HS] at T3
  have HN := Lib.hid (QK.meet_no (k := k) (k' := k') (at_ := at_) (many := many) (at' := at_') (many' := many'))
  have CW1 : Hid (∀ w1, Calls Try.prog 21 #[.int .u8 (k : Int)] w1 fun e w' => e = .returned (.bool (QK.wr k)) ∧ w1 = w') := fun w1 => law8Writes_any k w1
  have CW2 : Hid (∀ w1, Calls Try.prog 21 #[.int .u8 (k' : Int)] w1 fun e w' => e = .returned (.bool (QK.wr k')) ∧ w1 = w') := fun w1 => law8Writes_any k' w1
  clear hq1 hq2 p1 p2 HC HS g1 g2
  generalize QK.meet k at_ many k' at_' many' = mt at *
  cases hw1 : QK.wr k <;> cases hw2 : QK.wr k'
  · skip
    rw [hw1] at CW1 T3
    rw [hw2] at CW2
    obtain rfl : mt = false := HN.out hw1 hw2
    clear hw1 hw2 HN
    go_enter Try.func6, Try.ntmps6
    go_wp2_with fail
    (with_reducible refine (CA.out _).mono ?_)
    rintro e w1 ⟨rfl, b1⟩
    replace BX := Lib.hid (BX.out.here b1)
    replace BY := Lib.hid (BY.out.here b1)
    replace BZ := Lib.hid (BZ.out.here b1)
    have B1 := Lib.hid (thence B0.out b1 (Nat.le_refl _))
    clear b1 B0
    obtain ⟨c0, c1, c2, c3, c4, c5⟩ := BX.out.six
    have ltBX := BX.out.lt
    obtain ⟨y0, y1, y2, y3⟩ := BY.out.four
    have ltBY := BY.out.lt
    obtain ⟨z0, z1, z2, z3⟩ := BZ.out.four
    have ltBZ := BZ.out.lt
    go_wp2_with fail
    (with_reducible refine (C1.out _).mono ?_)
    rintro e w2 ⟨rfl, b2⟩
    clear c0 c1 c2 c3 c4 c5 y0 y1 y2 y3 z0 z1 z2 z3 ltBX ltBY ltBZ
    replace BX := Lib.hid (BX.out.here b2)
    replace BY := Lib.hid (BY.out.here b2)
    replace BZ := Lib.hid (BZ.out.here b2)
    have B2 := Lib.hid (thence B1.out b2 (Nat.le_refl _))
    clear b2 B1
    obtain ⟨c0, c1, c2, c3, c4, c5⟩ := BX.out.six
    have ltBX := BX.out.lt
    obtain ⟨y0, y1, y2, y3⟩ := BY.out.four
    have ltBY := BY.out.lt
    obtain ⟨z0, z1, z2, z3⟩ := BZ.out.four
    have ltBZ := BZ.out.lt
    go_wp2_with fail
    (with_reducible refine (C2.out _).mono ?_)
    rintro e w3 ⟨rfl, b3⟩
    clear c0 c1 c2 c3 c4 c5 y0 y1 y2 y3 z0 z1 z2 z3 ltBX ltBY ltBZ
    replace BX := Lib.hid (BX.out.here b3)
    replace BY := Lib.hid (BY.out.here b3)
    replace BZ := Lib.hid (BZ.out.here b3)
    have B3 := Lib.hid (thence B2.out b3 (Nat.le_refl _))
    clear b3 B2
    obtain ⟨c0, c1, c2, c3, c4, c5⟩ := BX.out.six
    have ltBX := BX.out.lt
    obtain ⟨y0, y1, y2, y3⟩ := BY.out.four
    have ltBY := BY.out.lt
    obtain ⟨z0, z1, z2, z3⟩ := BZ.out.four
    have ltBZ := BZ.out.lt
    go_wp2_with fail
    (with_reducible refine (T1.out _).mono ?_)
    rintro e w4 ⟨rfl, b4⟩
    clear c0 c1 c2 c3 c4 c5 y0 y1 y2 y3 z0 z1 z2 z3 ltBX ltBY ltBZ
    replace BX := Lib.hid (BX.out.here b4)
    replace BY := Lib.hid (BY.out.here b4)
    replace BZ := Lib.hid (BZ.out.here b4)
    have B4 := Lib.hid (thence B3.out b4 (Nat.le_refl _))
    clear b4 B3
    obtain ⟨c0, c1, c2, c3, c4, c5⟩ := BX.out.six
    have ltBX := BX.out.lt
    obtain ⟨y0, y1, y2, y3⟩ := BY.out.four
    have ltBY := BY.out.lt
    obtain ⟨z0, z1, z2, z3⟩ := BZ.out.four
    have ltBZ := BZ.out.lt
    go_wp2_with fail
    (with_reducible refine (T2.out _).mono ?_)
    rintro e w5 ⟨rfl, b5⟩
    clear c0 c1 c2 c3 c4 c5 y0 y1 y2 y3 z0 z1 z2 z3 ltBX ltBY ltBZ
    replace BX := Lib.hid (BX.out.here b5)
    replace BY := Lib.hid (BY.out.here b5)
    replace BZ := Lib.hid (BZ.out.here b5)
    have B5 := Lib.hid (thence B4.out b5 (Nat.le_refl _))
    clear b5 B4
    obtain ⟨c0, c1, c2, c3, c4, c5⟩ := BX.out.six
    have ltBX := BX.out.lt
    obtain ⟨y0, y1, y2, y3⟩ := BY.out.four
    have ltBY := BY.out.lt
    obtain ⟨z0, z1, z2, z3⟩ := BZ.out.four
    have ltBZ := BZ.out.lt
    go_wp2_with fail
    (with_reducible refine (T3.out _).mono ?_)
    rintro e w6 ⟨rfl, b6⟩
    clear c0 c1 c2 c3 c4 c5 y0 y1 y2 y3 z0 z1 z2 z3 ltBX ltBY ltBZ
    replace BX := Lib.hid (BX.out.here b6)
    replace BY := Lib.hid (BY.out.here b6)
    replace BZ := Lib.hid (BZ.out.here b6)
    have B6 := Lib.hid (thence B5.out b6 (Nat.le_refl _))
    clear b6 B5
    obtain ⟨c0, c1, c2, c3, c4, c5⟩ := BX.out.six
    have ltBX := BX.out.lt
    obtain ⟨y0, y1, y2, y3⟩ := BY.out.four
    have ltBY := BY.out.lt
    obtain ⟨z0, z1, z2, z3⟩ := BZ.out.four
    have ltBZ := BZ.out.lt
    go_wp2_with (first | ((with_reducible refine (CW1.out _).mono ?_); rintro e w7 ⟨rfl, rfl⟩) | ((with_reducible refine (CW2.out _).mono ?_); rintro e w7 ⟨rfl, rfl⟩))
    go_ret
    exact ⟨rfl, B6.out⟩
  · skip
    rw [hw1] at CW1 T3
    rw [hw2] at CW2
    clear hw1 hw2 HN
    cases mt
    all_goals
      go_enter Try.func6, Try.ntmps6
      go_wp2_with fail
      (with_reducible refine (CA.out _).mono ?_)
      rintro e w1 ⟨rfl, b1⟩
      replace BX := Lib.hid (BX.out.here b1)
      replace BY := Lib.hid (BY.out.here b1)
      replace BZ := Lib.hid (BZ.out.here b1)
      have B1 := Lib.hid (thence B0.out b1 (Nat.le_refl _))
      clear b1 B0
      obtain ⟨c0, c1, c2, c3, c4, c5⟩ := BX.out.six
      have ltBX := BX.out.lt
      obtain ⟨y0, y1, y2, y3⟩ := BY.out.four
      have ltBY := BY.out.lt
      obtain ⟨z0, z1, z2, z3⟩ := BZ.out.four
      have ltBZ := BZ.out.lt
      go_wp2_with fail
      (with_reducible refine (C1.out _).mono ?_)
      rintro e w2 ⟨rfl, b2⟩
      clear c0 c1 c2 c3 c4 c5 y0 y1 y2 y3 z0 z1 z2 z3 ltBX ltBY ltBZ
      replace BX := Lib.hid (BX.out.here b2)
      replace BY := Lib.hid (BY.out.here b2)
      replace BZ := Lib.hid (BZ.out.here b2)
      have B2 := Lib.hid (thence B1.out b2 (Nat.le_refl _))
      clear b2 B1
      obtain ⟨c0, c1, c2, c3, c4, c5⟩ := BX.out.six
      have ltBX := BX.out.lt
      obtain ⟨y0, y1, y2, y3⟩ := BY.out.four
      have ltBY := BY.out.lt
      obtain ⟨z0, z1, z2, z3⟩ := BZ.out.four
      have ltBZ := BZ.out.lt
      go_wp2_with fail
      (with_reducible refine (C2.out _).mono ?_)
      rintro e w3 ⟨rfl, b3⟩
      clear c0 c1 c2 c3 c4 c5 y0 y1 y2 y3 z0 z1 z2 z3 ltBX ltBY ltBZ
      replace BX := Lib.hid (BX.out.here b3)
      replace BY := Lib.hid (BY.out.here b3)
      replace BZ := Lib.hid (BZ.out.here b3)
      have B3 := Lib.hid (thence B2.out b3 (Nat.le_refl _))
      clear b3 B2
      obtain ⟨c0, c1, c2, c3, c4, c5⟩ := BX.out.six
      have ltBX := BX.out.lt
      obtain ⟨y0, y1, y2, y3⟩ := BY.out.four
      have ltBY := BY.out.lt
      obtain ⟨z0, z1, z2, z3⟩ := BZ.out.four
      have ltBZ := BZ.out.lt
      go_wp2_with fail
      (with_reducible refine (T1.out _).mono ?_)
      rintro e w4 ⟨rfl, b4⟩
      clear c0 c1 c2 c3 c4 c5 y0 y1 y2 y3 z0 z1 z2 z3 ltBX ltBY ltBZ
      replace BX := Lib.hid (BX.out.here b4)
      replace BY := Lib.hid (BY.out.here b4)
      replace BZ := Lib.hid (BZ.out.here b4)
      have B4 := Lib.hid (thence B3.out b4 (Nat.le_refl _))
      clear b4 B3
      obtain ⟨c0, c1, c2, c3, c4, c5⟩ := BX.out.six
      have ltBX := BX.out.lt
      obtain ⟨y0, y1, y2, y3⟩ := BY.out.four
      have ltBY := BY.out.lt
      obtain ⟨z0, z1, z2, z3⟩ := BZ.out.four
      have ltBZ := BZ.out.lt
      go_wp2_with fail
      (with_reducible refine (T2.out _).mono ?_)
      rintro e w5 ⟨rfl, b5⟩
      clear c0 c1 c2 c3 c4 c5 y0 y1 y2 y3 z0 z1 z2 z3 ltBX ltBY ltBZ
      replace BX := Lib.hid (BX.out.here b5)
      replace BY := Lib.hid (BY.out.here b5)
      replace BZ := Lib.hid (BZ.out.here b5)
      have B5 := Lib.hid (thence B4.out b5 (Nat.le_refl _))
      clear b5 B4
      obtain ⟨c0, c1, c2, c3, c4, c5⟩ := BX.out.six
      have ltBX := BX.out.lt
      obtain ⟨y0, y1, y2, y3⟩ := BY.out.four
      have ltBY := BY.out.lt
      obtain ⟨z0, z1, z2, z3⟩ := BZ.out.four
      have ltBZ := BZ.out.lt
      go_wp2_with fail
      (with_reducible refine (T3.out _).mono ?_)
      rintro e w6 ⟨rfl, b6⟩
      clear c0 c1 c2 c3 c4 c5 y0 y1 y2 y3 z0 z1 z2 z3 ltBX ltBY ltBZ
      replace BX := Lib.hid (BX.out.here b6)
      replace BY := Lib.hid (BY.out.here b6)
      replace BZ := Lib.hid (BZ.out.here b6)
      have B6 := Lib.hid (thence B5.out b6 (Nat.le_refl _))
      clear b6 B5
      obtain ⟨c0, c1, c2, c3, c4, c5⟩ := BX.out.six
      have ltBX := BX.out.lt
      obtain ⟨y0, y1, y2, y3⟩ := BY.out.four
      have ltBY := BY.out.lt
      obtain ⟨z0, z1, z2, z3⟩ := BZ.out.four
      have ltBZ := BZ.out.lt
      go_wp2_with (first | ((with_reducible refine (CW1.out _).mono ?_); rintro e w7 ⟨rfl, rfl⟩) | ((with_reducible refine (CW2.out _).mono ?_); rintro e w7 ⟨rfl, rfl⟩))
      go_ret
      exact ⟨rfl, B6.out⟩
  · skip
    rw [hw1] at CW1 T3
    rw [hw2] at CW2
    clear hw1 hw2 HN
    cases mt
    all_goals
      go_enter Try.func6, Try.ntmps6
      go_wp2_with fail
      (with_reducible refine (CA.out _).mono ?_)
      rintro e w1 ⟨rfl, b1⟩
      replace BX := Lib.hid (BX.out.here b1)
      replace BY := Lib.hid (BY.out.here b1)
      replace BZ := Lib.hid (BZ.out.here b1)
      have B1 := Lib.hid (thence B0.out b1 (Nat.le_refl _))
      clear b1 B0
      obtain ⟨c0, c1, c2, c3, c4, c5⟩ := BX.out.six
      have ltBX := BX.out.lt
      obtain ⟨y0, y1, y2, y3⟩ := BY.out.four
      have ltBY := BY.out.lt
      obtain ⟨z0, z1, z2, z3⟩ := BZ.out.four
      have ltBZ := BZ.out.lt
      go_wp2_with fail
      (with_reducible refine (C1.out _).mono ?_)
      rintro e w2 ⟨rfl, b2⟩
      clear c0 c1 c2 c3 c4 c5 y0 y1 y2 y3 z0 z1 z2 z3 ltBX ltBY ltBZ
      replace BX := Lib.hid (BX.out.here b2)
      replace BY := Lib.hid (BY.out.here b2)
      replace BZ := Lib.hid (BZ.out.here b2)
      have B2 := Lib.hid (thence B1.out b2 (Nat.le_refl _))
      clear b2 B1
      obtain ⟨c0, c1, c2, c3, c4, c5⟩ := BX.out.six
      have ltBX := BX.out.lt
      obtain ⟨y0, y1, y2, y3⟩ := BY.out.four
      have ltBY := BY.out.lt
      obtain ⟨z0, z1, z2, z3⟩ := BZ.out.four
      have ltBZ := BZ.out.lt
      go_wp2_with fail
      (with_reducible refine (C2.out _).mono ?_)
      rintro e w3 ⟨rfl, b3⟩
      clear c0 c1 c2 c3 c4 c5 y0 y1 y2 y3 z0 z1 z2 z3 ltBX ltBY ltBZ
      replace BX := Lib.hid (BX.out.here b3)
      replace BY := Lib.hid (BY.out.here b3)
      replace BZ := Lib.hid (BZ.out.here b3)
      have B3 := Lib.hid (thence B2.out b3 (Nat.le_refl _))
      clear b3 B2
      obtain ⟨c0, c1, c2, c3, c4, c5⟩ := BX.out.six
      have ltBX := BX.out.lt
      obtain ⟨y0, y1, y2, y3⟩ := BY.out.four
      have ltBY := BY.out.lt
      obtain ⟨z0, z1, z2, z3⟩ := BZ.out.four
      have ltBZ := BZ.out.lt
      go_wp2_with fail
      (with_reducible refine (T1.out _).mono ?_)
      rintro e w4 ⟨rfl, b4⟩
      clear c0 c1 c2 c3 c4 c5 y0 y1 y2 y3 z0 z1 z2 z3 ltBX ltBY ltBZ
      replace BX := Lib.hid (BX.out.here b4)
      replace BY := Lib.hid (BY.out.here b4)
      replace BZ := Lib.hid (BZ.out.here b4)
      have B4 := Lib.hid (thence B3.out b4 (Nat.le_refl _))
      clear b4 B3
      obtain ⟨c0, c1, c2, c3, c4, c5⟩ := BX.out.six
      have ltBX := BX.out.lt
      obtain ⟨y0, y1, y2, y3⟩ := BY.out.four
      have ltBY := BY.out.lt
      obtain ⟨z0, z1, z2, z3⟩ := BZ.out.four
      have ltBZ := BZ.out.lt
      go_wp2_with fail
      (with_reducible refine (T2.out _).mono ?_)
      rintro e w5 ⟨rfl, b5⟩
      clear c0 c1 c2 c3 c4 c5 y0 y1 y2 y3 z0 z1 z2 z3 ltBX ltBY ltBZ
      replace BX := Lib.hid (BX.out.here b5)
      replace BY := Lib.hid (BY.out.here b5)
      replace BZ := Lib.hid (BZ.out.here b5)
      have B5 := Lib.hid (thence B4.out b5 (Nat.le_refl _))
      clear b5 B4
      obtain ⟨c0, c1, c2, c3, c4, c5⟩ := BX.out.six
      have ltBX := BX.out.lt
      obtain ⟨y0, y1, y2, y3⟩ := BY.out.four
      have ltBY := BY.out.lt
      obtain ⟨z0, z1, z2, z3⟩ := BZ.out.four
      have ltBZ := BZ.out.lt
      go_wp2_with fail
      (with_reducible refine (T3.out _).mono ?_)
      rintro e w6 ⟨rfl, b6⟩
      clear c0 c1 c2 c3 c4 c5 y0 y1 y2 y3 z0 z1 z2 z3 ltBX ltBY ltBZ
      replace BX := Lib.hid (BX.out.here b6)
      replace BY := Lib.hid (BY.out.here b6)
      replace BZ := Lib.hid (BZ.out.here b6)
      have B6 := Lib.hid (thence B5.out b6 (Nat.le_refl _))
      clear b6 B5
      obtain ⟨c0, c1, c2, c3, c4, c5⟩ := BX.out.six
      have ltBX := BX.out.lt
      obtain ⟨y0, y1, y2, y3⟩ := BY.out.four
      have ltBY := BY.out.lt
      obtain ⟨z0, z1, z2, z3⟩ := BZ.out.four
      have ltBZ := BZ.out.lt
      go_wp2_with (first | ((with_reducible refine (CW1.out _).mono ?_); rintro e w7 ⟨rfl, rfl⟩) | ((with_reducible refine (CW2.out _).mono ?_); rintro e w7 ⟨rfl, rfl⟩))
      go_ret
      exact ⟨rfl, B6.out⟩
  · skip
    rw [hw1] at CW1 T3
    rw [hw2] at CW2
    clear hw1 hw2 HN
    cases mt
    all_goals
      go_enter Try.func6, Try.ntmps6
      go_wp2_with fail
      (with_reducible refine (CA.out _).mono ?_)
      rintro e w1 ⟨rfl, b1⟩
      replace BX := Lib.hid (BX.out.here b1)
      replace BY := Lib.hid (BY.out.here b1)
      replace BZ := Lib.hid (BZ.out.here b1)
      have B1 := Lib.hid (thence B0.out b1 (Nat.le_refl _))
      clear b1 B0
      obtain ⟨c0, c1, c2, c3, c4, c5⟩ := BX.out.six
      have ltBX := BX.out.lt
      obtain ⟨y0, y1, y2, y3⟩ := BY.out.four
      have ltBY := BY.out.lt
      obtain ⟨z0, z1, z2, z3⟩ := BZ.out.four
      have ltBZ := BZ.out.lt
      go_wp2_with fail
      (with_reducible refine (C1.out _).mono ?_)
      rintro e w2 ⟨rfl, b2⟩
      clear c0 c1 c2 c3 c4 c5 y0 y1 y2 y3 z0 z1 z2 z3 ltBX ltBY ltBZ
      replace BX := Lib.hid (BX.out.here b2)
      replace BY := Lib.hid (BY.out.here b2)
      replace BZ := Lib.hid (BZ.out.here b2)
      have B2 := Lib.hid (thence B1.out b2 (Nat.le_refl _))
      clear b2 B1
      obtain ⟨c0, c1, c2, c3, c4, c5⟩ := BX.out.six
      have ltBX := BX.out.lt
      obtain ⟨y0, y1, y2, y3⟩ := BY.out.four
      have ltBY := BY.out.lt
      obtain ⟨z0, z1, z2, z3⟩ := BZ.out.four
      have ltBZ := BZ.out.lt
      go_wp2_with fail
      (with_reducible refine (C2.out _).mono ?_)
      rintro e w3 ⟨rfl, b3⟩
      clear c0 c1 c2 c3 c4 c5 y0 y1 y2 y3 z0 z1 z2 z3 ltBX ltBY ltBZ
      replace BX := Lib.hid (BX.out.here b3)
      replace BY := Lib.hid (BY.out.here b3)
      replace BZ := Lib.hid (BZ.out.here b3)
      have B3 := Lib.hid (thence B2.out b3 (Nat.le_refl _))
      clear b3 B2
      obtain ⟨c0, c1, c2, c3, c4, c5⟩ := BX.out.six
      have ltBX := BX.out.lt
      obtain ⟨y0, y1, y2, y3⟩ := BY.out.four
      have ltBY := BY.out.lt
      obtain ⟨z0, z1, z2, z3⟩ := BZ.out.four
      have ltBZ := BZ.out.lt
      go_wp2_with fail
      (with_reducible refine (T1.out _).mono ?_)
      rintro e w4 ⟨rfl, b4⟩
      clear c0 c1 c2 c3 c4 c5 y0 y1 y2 y3 z0 z1 z2 z3 ltBX ltBY ltBZ
      replace BX := Lib.hid (BX.out.here b4)
      replace BY := Lib.hid (BY.out.here b4)
      replace BZ := Lib.hid (BZ.out.here b4)
      have B4 := Lib.hid (thence B3.out b4 (Nat.le_refl _))
      clear b4 B3
      obtain ⟨c0, c1, c2, c3, c4, c5⟩ := BX.out.six
      have ltBX := BX.out.lt
      obtain ⟨y0, y1, y2, y3⟩ := BY.out.four
      have ltBY := BY.out.lt
      obtain ⟨z0, z1, z2, z3⟩ := BZ.out.four
      have ltBZ := BZ.out.lt
      go_wp2_with fail
      (with_reducible refine (T2.out _).mono ?_)
      rintro e w5 ⟨rfl, b5⟩
      clear c0 c1 c2 c3 c4 c5 y0 y1 y2 y3 z0 z1 z2 z3 ltBX ltBY ltBZ
      replace BX := Lib.hid (BX.out.here b5)
      replace BY := Lib.hid (BY.out.here b5)
      replace BZ := Lib.hid (BZ.out.here b5)
      have B5 := Lib.hid (thence B4.out b5 (Nat.le_refl _))
      clear b5 B4
      obtain ⟨c0, c1, c2, c3, c4, c5⟩ := BX.out.six
      have ltBX := BX.out.lt
      obtain ⟨y0, y1, y2, y3⟩ := BY.out.four
      have ltBY := BY.out.lt
      obtain ⟨z0, z1, z2, z3⟩ := BZ.out.four
      have ltBZ := BZ.out.lt
      go_wp2_with fail
      (with_reducible refine (T3.out _).mono ?_)
      rintro e w6 ⟨rfl, b6⟩
      clear c0 c1 c2 c3 c4 c5 y0 y1 y2 y3 z0 z1 z2 z3 ltBX ltBY ltBZ
      replace BX := Lib.hid (BX.out.here b6)
      replace BY := Lib.hid (BY.out.here b6)
      replace BZ := Lib.hid (BZ.out.here b6)
      have B6 := Lib.hid (thence B5.out b6 (Nat.le_refl _))
      clear b6 B5
      obtain ⟨c0, c1, c2, c3, c4, c5⟩ := BX.out.six
      have ltBX := BX.out.lt
      obtain ⟨y0, y1, y2, y3⟩ := BY.out.four
      have ltBY := BY.out.lt
      obtain ⟨z0, z1, z2, z3⟩ := BZ.out.four
      have ltBZ := BZ.out.lt
      go_wp2_with (first | ((with_reducible refine (CW1.out _).mono ?_); rintro e w7 ⟨rfl, rfl⟩) | ((with_reducible refine (CW2.out _).mono ?_); rintro e w7 ⟨rfl, rfl⟩))
      go_ret
      exact ⟨rfl, B6.out⟩
end Go.Proofs.Ytbhehicfenkbcaa.PW
