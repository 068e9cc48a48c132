/-
  The walk of a law of layer 8 (SplitAll), given what the program's calls answer.
-/
import Derived.Test.YtbhehicfenkbcaaSplitLaws
import Derived.Deep.QuietTactic
import Derived.BigQuiet
namespace Go.Proofs.Ytbhehicfenkbcaa.PW
open Go.RowKit
open SK (Cfg)
set_option linter.unusedVariables false
set_option linter.unusedSimpArgs false
set_option maxRecDepth 100000

set_option maxHeartbeats 4000000 in
theorem splitAll_walk (I : SplitIs) (J : ShapeNum 20 (fun c => c.chunk * c.rows * (c.mem - 1))) (id : Nat) (mem chunk rows log heads : Int) (k : Nat) (at_ many : Int) (da : Option Addr) (dn dc : Nat) (k' : Nat) (at_' many' : Int) (da' : Option Addr) (dn' dc' : Nat) (w : World) (hs : dn ≤ 9223372036854775807) (hs' : dn' ≤ 9223372036854775807) :
    Calls Try.prog 5 #[.agg #[.int .u32 (id : Int), .int .i64 mem, .int .i64 chunk, .int .i64 rows, .int .i64 log, .int .i64 heads], .agg #[.int .u8 (k : Int), .int .i64 at_, .int .i64 many, .slice da dn dc], .agg #[.int .u8 (k' : Int), .int .i64 at_', .int .i64 many', .slice da' dn' dc']] w fun e w' => e = .returned (.bool true) ∧ Below w.heap.size w w' := by
  have ha1 : Below w.heap.size w (w.alloc (.cells #[.int .u32 (id : Int), .int .i64 mem, .int .i64 chunk, .int .i64 rows, .int .i64 log, .int .i64 heads] 24)) := (Below.refl _ _).alloc (Nat.le_refl _) _
  have ha2 : Below (w.alloc (.cells #[.int .u32 (id : Int), .int .i64 mem, .int .i64 chunk, .int .i64 rows, .int .i64 log, .int .i64 heads] 24)).heap.size (w.alloc (.cells #[.int .u32 (id : Int), .int .i64 mem, .int .i64 chunk, .int .i64 rows, .int .i64 log, .int .i64 heads] 24)) ((w.alloc (.cells #[.int .u32 (id : Int), .int .i64 mem, .int .i64 chunk, .int .i64 rows, .int .i64 log, .int .i64 heads] 24)).alloc (.cells #[.int .u8 (k : Int), .int .i64 at_, .int .i64 many, .slice da dn dc] 32)) := (Below.refl _ _).alloc (Nat.le_refl _) _
  have ha3 : Below ((w.alloc (.cells #[.int .u32 (id : Int), .int .i64 mem, .int .i64 chunk, .int .i64 rows, .int .i64 log, .int .i64 heads] 24)).alloc (.cells #[.int .u8 (k : Int), .int .i64 at_, .int .i64 many, .slice da dn dc] 32)).heap.size ((w.alloc (.cells #[.int .u32 (id : Int), .int .i64 mem, .int .i64 chunk, .int .i64 rows, .int .i64 log, .int .i64 heads] 24)).alloc (.cells #[.int .u8 (k : Int), .int .i64 at_, .int .i64 many, .slice da dn dc] 32)) (((w.alloc (.cells #[.int .u32 (id : Int), .int .i64 mem, .int .i64 chunk, .int .i64 rows, .int .i64 log, .int .i64 heads] 24)).alloc (.cells #[.int .u8 (k : Int), .int .i64 at_, .int .i64 many, .slice da dn dc] 32)).alloc (.cells #[.int .u8 (k' : Int), .int .i64 at_', .int .i64 many', .slice da' dn' dc'] 32)) := (Below.refl _ _).alloc (Nat.le_refl _) _
  have B0 : Hid (Below w.heap.size w (((w.alloc (.cells #[.int .u32 (id : Int), .int .i64 mem, .int .i64 chunk, .int .i64 rows, .int .i64 log, .int .i64 heads] 24)).alloc (.cells #[.int .u8 (k : Int), .int .i64 at_, .int .i64 many, .slice da dn dc] 32)).alloc (.cells #[.int .u8 (k' : Int), .int .i64 at_', .int .i64 many', .slice da' dn' dc'] 32))) := thence (thence ha1 ha2 (Nat.le_refl _)) ha3 (Nat.le_refl _)
  have BX : Hid (Bx (((w.alloc (.cells #[.int .u32 (id : Int), .int .i64 mem, .int .i64 chunk, .int .i64 rows, .int .i64 log, .int .i64 heads] 24)).alloc (.cells #[.int .u8 (k : Int), .int .i64 at_, .int .i64 many, .slice da dn dc] 32)).alloc (.cells #[.int .u8 (k' : Int), .int .i64 at_', .int .i64 many', .slice da' dn' dc'] 32)) w.heap.size [.int .u32 (id : Int), .int .i64 mem, .int .i64 chunk, .int .i64 rows, .int .i64 log, .int .i64 heads]) := ((Bx.new w [.int .u32 (id : Int), .int .i64 mem, .int .i64 chunk, .int .i64 rows, .int .i64 log, .int .i64 heads] 24).here ha2).here ha3
  have BY : Hid (Bx (((w.alloc (.cells #[.int .u32 (id : Int), .int .i64 mem, .int .i64 chunk, .int .i64 rows, .int .i64 log, .int .i64 heads] 24)).alloc (.cells #[.int .u8 (k : Int), .int .i64 at_, .int .i64 many, .slice da dn dc] 32)).alloc (.cells #[.int .u8 (k' : Int), .int .i64 at_', .int .i64 many', .slice da' dn' dc'] 32)) (w.heap.size + 1) [.int .u8 (k : Int), .int .i64 at_, .int .i64 many, .slice da dn dc]) := by
    have h := (Bx.new (w.alloc (.cells #[.int .u32 (id : Int), .int .i64 mem, .int .i64 chunk, .int .i64 rows, .int .i64 log, .int .i64 heads] 24)) [.int .u8 (k : Int), .int .i64 at_, .int .i64 many, .slice da dn dc] 32).here ha3
    have e : (w.alloc (.cells #[.int .u32 (id : Int), .int .i64 mem, .int .i64 chunk, .int .i64 rows, .int .i64 log, .int .i64 heads] 24)).heap.size = w.heap.size + 1 := by simp
    rw [e] at h
    exact h
  have BZ : Hid (Bx (((w.alloc (.cells #[.int .u32 (id : Int), .int .i64 mem, .int .i64 chunk, .int .i64 rows, .int .i64 log, .int .i64 heads] 24)).alloc (.cells #[.int .u8 (k : Int), .int .i64 at_, .int .i64 many, .slice da dn dc] 32)).alloc (.cells #[.int .u8 (k' : Int), .int .i64 at_', .int .i64 many', .slice da' dn' dc'] 32)) (w.heap.size + 1 + 1) [.int .u8 (k' : Int), .int .i64 at_', .int .i64 many', .slice da' dn' dc']) := by
    have h := Bx.new ((w.alloc (.cells #[.int .u32 (id : Int), .int .i64 mem, .int .i64 chunk, .int .i64 rows, .int .i64 log, .int .i64 heads] 24)).alloc (.cells #[.int .u8 (k : Int), .int .i64 at_, .int .i64 many, .slice da dn dc] 32)) [.int .u8 (k' : Int), .int .i64 at_', .int .i64 many', .slice da' dn' dc'] 32
    have e : ((w.alloc (.cells #[.int .u32 (id : Int), .int .i64 mem, .int .i64 chunk, .int .i64 rows, .int .i64 log, .int .i64 heads] 24)).alloc (.cells #[.int .u8 (k : Int), .int .i64 at_, .int .i64 many, .slice da dn dc] 32)).heap.size = w.heap.size + 1 + 1 := by simp
    rw [e] at h
    exact h
  clear ha1 ha2 ha3
  have CA := Lib.hid (alive8_any I)
  have C1 := Lib.hid (I.blocks id mem chunk rows log heads k at_ many da dn dc)
  have C2 := Lib.hid (I.blocks id mem chunk rows log heads k' at_' many' da' dn' dc')
  have CT : Hid (∀ w1, Calls Try.prog 12 #[.agg #[.int .u32 (id : Int), .int .i64 mem, .int .i64 chunk, .int .i64 rows, .int .i64 log, .int .i64 heads], .agg #[.int .u8 (k : Int), .int .i64 at_, .int .i64 many, .slice da dn dc], .agg #[.int .u8 (k' : Int), .int .i64 at_', .int .i64 many', .slice da' dn' dc']] w1 fun e w' => e = .returned (.tuple #[.bool (if QK.tcode ⟨id, mem, chunk, rows, log, heads⟩ k at_ many dn k' at_' many' dn' = 0 then QK.meet k at_ many k' at_' many' else false), .int .i64 ((QK.tcode ⟨id, mem, chunk, rows, log, heads⟩ k at_ many dn k' at_' many' dn' : Nat) : Int)]) ∧ Below w1.heap.size w1 w') := I.touch id mem chunk rows log heads k at_ many da dn dc k' at_' many' da' dn' dc'
  unfold QK.tcode at CT
  obtain ⟨q1, hq1⟩ : ∃ q, QK.code ⟨id, mem, chunk, rows, log, heads⟩ k at_ many dn = q := ⟨_, rfl⟩
  obtain ⟨q2, hq2⟩ : ∃ q, QK.code ⟨id, mem, chunk, rows, log, heads⟩ k' at_' many' dn' = q := ⟨_, rfl⟩
  rw [hq1] at C1 CT
  rw [hq2] at C2 CT
  by_cases g1 : 5000 < dn
  · have i1 : (5000 : Int) < (dn : Int) := by omega
    clear g1 hq1 hq2
    go_enter Try.func5, Try.ntmps5
    go_wp2_with fail
    (with_reducible refine (CA.out _).mono ?_)
    rintro e w1 ⟨rfl, b1⟩
    replace BX := Lib.hid (BX.out.here b1)
    replace BY := Lib.hid (BY.out.here b1)
    replace BZ := Lib.hid (BZ.out.here b1)
    have B1 := Lib.hid (thence B0.out b1 (Nat.le_refl _))
    clear b1 B0
    obtain ⟨c0, c1, c2, c3, c4, c5⟩ := BX.out.six
    have ltBX := BX.out.lt
    obtain ⟨y0, y1, y2, y3⟩ := BY.out.four
    have ltBY := BY.out.lt
    obtain ⟨z0, z1, z2, z3⟩ := BZ.out.four
    have ltBZ := BZ.out.lt
    go_wp2_with fail
    go_ret
    exact ⟨rfl, B1.out⟩
  have i1 : ¬ (5000 : Int) < (dn : Int) := by omega
  by_cases g2 : 5000 < dn'
  · have i2 : (5000 : Int) < (dn' : Int) := by omega
    clear g1 g2 hq1 hq2
    go_enter Try.func5, Try.ntmps5
    go_wp2_with fail
    (with_reducible refine (CA.out _).mono ?_)
    rintro e w1 ⟨rfl, b1⟩
    replace BX := Lib.hid (BX.out.here b1)
    replace BY := Lib.hid (BY.out.here b1)
    replace BZ := Lib.hid (BZ.out.here b1)
    have B1 := Lib.hid (thence B0.out b1 (Nat.le_refl _))
    clear b1 B0
    obtain ⟨c0, c1, c2, c3, c4, c5⟩ := BX.out.six
    have ltBX := BX.out.lt
    obtain ⟨y0, y1, y2, y3⟩ := BY.out.four
    have ltBY := BY.out.lt
    obtain ⟨z0, z1, z2, z3⟩ := BZ.out.four
    have ltBZ := BZ.out.lt
    go_wp2_with fail
    go_ret
    exact ⟨rfl, B1.out⟩
  have i2 : ¬ (5000 : Int) < (dn' : Int) := by omega
  clear g1 g2
  by_cases g3 : q1 = 0
  case neg =>
    simp only [if_neg g3] at C1 CT
    have e1 : ((q1 : Int) == q1) = true := beq_iff_eq.2 rfl
    have t0 : ((q1 : Int) == 0) = false := beq_eq_false_iff_ne.2 (by omega)
    have t1 : ((q1 : Int) != 0) = true := by rw [bne, t0]; rfl
    clear g3 hq1 hq2
    generalize (if q2 = 0 then QK.blks at_' many' else []) = LL at C2
    go_enter Try.func5, Try.ntmps5
    go_wp2_with fail
    (with_reducible refine (CA.out _).mono ?_)
    rintro e w1 ⟨rfl, b1⟩
    replace BX := Lib.hid (BX.out.here b1)
    replace BY := Lib.hid (BY.out.here b1)
    replace BZ := Lib.hid (BZ.out.here b1)
    have B1 := Lib.hid (thence B0.out b1 (Nat.le_refl _))
    clear b1 B0
    obtain ⟨c0, c1, c2, c3, c4, c5⟩ := BX.out.six
    have ltBX := BX.out.lt
    obtain ⟨y0, y1, y2, y3⟩ := BY.out.four
    have ltBY := BY.out.lt
    obtain ⟨z0, z1, z2, z3⟩ := BZ.out.four
    have ltBZ := BZ.out.lt
    go_wp2_with fail
    (with_reducible refine (C1.out _).mono ?_)
    rintro e w2 ⟨a1, n1, p1, rfl, rg1, b2⟩
    clear c0 c1 c2 c3 c4 c5 y0 y1 y2 y3 z0 z1 z2 z3 ltBX ltBY ltBZ
    replace BX := Lib.hid (BX.out.here b2)
    replace BY := Lib.hid (BY.out.here b2)
    replace BZ := Lib.hid (BZ.out.here b2)
    have B2 := Lib.hid (thence B1.out b2 (Nat.le_refl _))
    have R1 := Lib.hid rg1
    clear b2 B1 rg1
    obtain ⟨c0, c1, c2, c3, c4, c5⟩ := BX.out.six
    have ltBX := BX.out.lt
    obtain ⟨y0, y1, y2, y3⟩ := BY.out.four
    have ltBY := BY.out.lt
    obtain ⟨z0, z1, z2, z3⟩ := BZ.out.four
    have ltBZ := BZ.out.lt
    go_wp2_with fail
    (with_reducible refine (C2.out _).mono ?_)
    rintro e w3 ⟨a2, n2, p2, rfl, rg2, b3⟩
    clear c0 c1 c2 c3 c4 c5 y0 y1 y2 y3 z0 z1 z2 z3 ltBX ltBY ltBZ
    replace BX := Lib.hid (BX.out.here b3)
    replace BY := Lib.hid (BY.out.here b3)
    replace BZ := Lib.hid (BZ.out.here b3)
    have B3 := Lib.hid (thence B2.out b3 (Nat.le_refl _))
    replace R1 := Lib.hid (R1.out.here b3)
    have R2 := Lib.hid rg2
    clear b3 B2 rg2
    obtain ⟨c0, c1, c2, c3, c4, c5⟩ := BX.out.six
    have ltBX := BX.out.lt
    obtain ⟨y0, y1, y2, y3⟩ := BY.out.four
    have ltBY := BY.out.lt
    obtain ⟨z0, z1, z2, z3⟩ := BZ.out.four
    have ltBZ := BZ.out.lt
    go_wp2_with fail
    (with_reducible refine (CT.out _).mono ?_)
    rintro e w4 ⟨rfl, b4⟩
    clear c0 c1 c2 c3 c4 c5 y0 y1 y2 y3 z0 z1 z2 z3 ltBX ltBY ltBZ
    replace BX := Lib.hid (BX.out.here b4)
    replace BY := Lib.hid (BY.out.here b4)
    replace BZ := Lib.hid (BZ.out.here b4)
    have B4 := Lib.hid (thence B3.out b4 (Nat.le_refl _))
    replace R1 := Lib.hid (R1.out.here b4)
    replace R2 := Lib.hid (R2.out.here b4)
    clear b4 B3
    obtain ⟨c0, c1, c2, c3, c4, c5⟩ := BX.out.six
    have ltBX := BX.out.lt
    obtain ⟨y0, y1, y2, y3⟩ := BY.out.four
    have ltBY := BY.out.lt
    obtain ⟨z0, z1, z2, z3⟩ := BZ.out.four
    have ltBZ := BZ.out.lt
    go_wp2_with fail
    go_ret
    exact ⟨rfl, B4.out⟩
  subst g3
  simp only [if_pos] at C1 CT
  by_cases g4 : q2 = 0
  case neg =>
    simp only [if_neg g4] at C2 CT
    have e1 : ((q2 : Int) == q2) = true := beq_iff_eq.2 rfl
    have t0 : ((q2 : Int) == 0) = false := beq_eq_false_iff_ne.2 (by omega)
    have t1 : ((q2 : Int) != 0) = true := by rw [bne, t0]; rfl
    clear g4 hq1 hq2
    generalize QK.blks at_ many = LL at C1
    go_enter Try.func5, Try.ntmps5
    go_wp2_with fail
    (with_reducible refine (CA.out _).mono ?_)
    rintro e w1 ⟨rfl, b1⟩
    replace BX := Lib.hid (BX.out.here b1)
    replace BY := Lib.hid (BY.out.here b1)
    replace BZ := Lib.hid (BZ.out.here b1)
    have B1 := Lib.hid (thence B0.out b1 (Nat.le_refl _))
    clear b1 B0
    obtain ⟨c0, c1, c2, c3, c4, c5⟩ := BX.out.six
    have ltBX := BX.out.lt
    obtain ⟨y0, y1, y2, y3⟩ := BY.out.four
    have ltBY := BY.out.lt
    obtain ⟨z0, z1, z2, z3⟩ := BZ.out.four
    have ltBZ := BZ.out.lt
    go_wp2_with fail
    (with_reducible refine (C1.out _).mono ?_)
    rintro e w2 ⟨a1, n1, p1, rfl, rg1, b2⟩
    clear c0 c1 c2 c3 c4 c5 y0 y1 y2 y3 z0 z1 z2 z3 ltBX ltBY ltBZ
    replace BX := Lib.hid (BX.out.here b2)
    replace BY := Lib.hid (BY.out.here b2)
    replace BZ := Lib.hid (BZ.out.here b2)
    have B2 := Lib.hid (thence B1.out b2 (Nat.le_refl _))
    have R1 := Lib.hid rg1
    clear b2 B1 rg1
    obtain ⟨c0, c1, c2, c3, c4, c5⟩ := BX.out.six
    have ltBX := BX.out.lt
    obtain ⟨y0, y1, y2, y3⟩ := BY.out.four
    have ltBY := BY.out.lt
    obtain ⟨z0, z1, z2, z3⟩ := BZ.out.four
    have ltBZ := BZ.out.lt
    go_wp2_with fail
    (with_reducible refine (C2.out _).mono ?_)
    rintro e w3 ⟨a2, n2, p2, rfl, rg2, b3⟩
    clear c0 c1 c2 c3 c4 c5 y0 y1 y2 y3 z0 z1 z2 z3 ltBX ltBY ltBZ
    replace BX := Lib.hid (BX.out.here b3)
    replace BY := Lib.hid (BY.out.here b3)
    replace BZ := Lib.hid (BZ.out.here b3)
    have B3 := Lib.hid (thence B2.out b3 (Nat.le_refl _))
    replace R1 := Lib.hid (R1.out.here b3)
    have R2 := Lib.hid rg2
    clear b3 B2 rg2
    obtain ⟨c0, c1, c2, c3, c4, c5⟩ := BX.out.six
    have ltBX := BX.out.lt
    obtain ⟨y0, y1, y2, y3⟩ := BY.out.four
    have ltBY := BY.out.lt
    obtain ⟨z0, z1, z2, z3⟩ := BZ.out.four
    have ltBZ := BZ.out.lt
    go_wp2_with fail
    (with_reducible refine (CT.out _).mono ?_)
    rintro e w4 ⟨rfl, b4⟩
    clear c0 c1 c2 c3 c4 c5 y0 y1 y2 y3 z0 z1 z2 z3 ltBX ltBY ltBZ
    replace BX := Lib.hid (BX.out.here b4)
    replace BY := Lib.hid (BY.out.here b4)
    replace BZ := Lib.hid (BZ.out.here b4)
    have B4 := Lib.hid (thence B3.out b4 (Nat.le_refl _))
    replace R1 := Lib.hid (R1.out.here b4)
    replace R2 := Lib.hid (R2.out.here b4)
    clear b4 B3
    obtain ⟨c0, c1, c2, c3, c4, c5⟩ := BX.out.six
    have ltBX := BX.out.lt
    obtain ⟨y0, y1, y2, y3⟩ := BY.out.four
    have ltBY := BY.out.lt
    obtain ⟨z0, z1, z2, z3⟩ := BZ.out.four
    have ltBZ := BZ.out.lt
    go_wp2_with fail
    go_ret
    exact ⟨rfl, B4.out⟩
  subst g4
  simp only [if_pos] at C2 CT
  have p1 := QK.code_iff.1 hq1
  have p2 := QK.code_iff.1 hq2
  have JB : Hid (∀ w1, Calls Try.prog 20 #[.agg #[.int .u32 (id : Int), .int .i64 mem, .int .i64 chunk, .int .i64 rows, .int .i64 log, .int .i64 heads]] w1 fun e w' => e = .returned (.tuple #[.int .i64 (chunk * rows * (mem - 1)), .int .i64 0]) ∧ Below w1.heap.size w1 w') := fun w1 => by
    have := J id mem chunk rows log heads w1
    rw [if_pos (SK.may_iff.2 p1.1), SK.code_yes (SK.may_iff.2 p1.1)] at this
    exact this
  have b1 := QK.placed_bd p1.1 p1.2.1
  have b2 := QK.placed_bd p2.1 p2.2.1
  obtain ⟨x0, x1, x2, x3, x4, x5⟩ := b1
  obtain ⟨x0', x1', x2', x3', x4', x5'⟩ := b2
  unfold Cfg.blocks Cfg.stripes at x5 x5'
  dsimp only at x5 x5'
  obtain ⟨ma, rfl⟩ := Int.eq_ofNat_of_zero_le x2
  obtain ⟨mb, rfl⟩ := Int.eq_ofNat_of_zero_le x2'
  have MA : Hid (QK.met at_ at_' mb ma = decide (at_ < at_' + (mb : Int) ∧ at_' < at_ + (ma : Int))) := QK.met_all x0 x0' (fun e => x4 (by rw [e]; rfl)) (fun e => x4' (by rw [e]; rfl))
  have MT : Hid (QK.meet k at_ (ma : Int) k' at_' (mb : Int) = ((QK.wr k || QK.wr k') && QK.met at_ at_' mb ma)) := by show _ = _; rw [MA.out]; rfl
  have CW1 : Hid (∀ w1, Calls Try.prog 21 #[.int .u8 (k : Int)] w1 fun e w' => e = .returned (.bool (QK.wr k)) ∧ w1 = w') := fun w1 => law8Writes_any k w1
  have CW2 : Hid (∀ w1, Calls Try.prog 21 #[.int .u8 (k' : Int)] w1 fun e w' => e = .returned (.bool (QK.wr k')) ∧ w1 = w') := fun w1 => law8Writes_any k' w1
  have BG1 : Hid (∀ i, i < ma → (QK.blks at_ (ma : Int)).getD i 0 = at_ + (i : Int)) := fun i hi => QK.blks_get (by simpa using hi)
  have BG2 : Hid (∀ i, i < mb → (QK.blks at_' (mb : Int)).getD i 0 = at_' + (i : Int)) := fun i hi => QK.blks_get (by simpa using hi)
  have BL1 : Hid ((QK.blks at_ (ma : Int)).length = ma) := by show _ = _; rw [QK.blks_length]; simp
  have BL2 : Hid ((QK.blks at_' (mb : Int)).length = mb) := by show _ = _; rw [QK.blks_length]; simp
  clear hq1 hq2 p1 p2 x4 x4'
  generalize chunk * rows * (mem - 1) = nb at *
  rw [MT.out] at CT
  generalize QK.blks at_ (ma : Int) = L1 at *
  generalize QK.blks at_' (mb : Int) = L2 at *
  have HWK : Hid ((QK.wr k || QK.wr k') = (QK.wr k || QK.wr k')) := rfl
  go_enter Try.func5, Try.ntmps5
  go_wp2_with fail
  (with_reducible refine (CA.out _).mono ?_)
  rintro e w1 ⟨rfl, b1⟩
  replace BX := Lib.hid (BX.out.here b1)
  replace BY := Lib.hid (BY.out.here b1)
  replace BZ := Lib.hid (BZ.out.here b1)
  have B1 := Lib.hid (thence B0.out b1 (Nat.le_refl _))
  clear b1 B0
  obtain ⟨c0, c1, c2, c3, c4, c5⟩ := BX.out.six
  have ltBX := BX.out.lt
  obtain ⟨y0, y1, y2, y3⟩ := BY.out.four
  have ltBY := BY.out.lt
  obtain ⟨z0, z1, z2, z3⟩ := BZ.out.four
  have ltBZ := BZ.out.lt
  go_wp2_with fail
  (with_reducible refine (C1.out _).mono ?_)
  rintro e w2 ⟨a1, n1, p1, rfl, rg1, b2⟩
  clear c0 c1 c2 c3 c4 c5 y0 y1 y2 y3 z0 z1 z2 z3 ltBX ltBY ltBZ
  replace BX := Lib.hid (BX.out.here b2)
  replace BY := Lib.hid (BY.out.here b2)
  replace BZ := Lib.hid (BZ.out.here b2)
  have B2 := Lib.hid (thence B1.out b2 (Nat.le_refl _))
  have R1 := Lib.hid rg1
  clear b2 B1 rg1
  obtain ⟨c0, c1, c2, c3, c4, c5⟩ := BX.out.six
  have ltBX := BX.out.lt
  obtain ⟨y0, y1, y2, y3⟩ := BY.out.four
  have ltBY := BY.out.lt
  obtain ⟨z0, z1, z2, z3⟩ := BZ.out.four
  have ltBZ := BZ.out.lt
  go_wp2_with fail
  (with_reducible refine (C2.out _).mono ?_)
  rintro e w3 ⟨a2, n2, p2, rfl, rg2, b3⟩
  clear c0 c1 c2 c3 c4 c5 y0 y1 y2 y3 z0 z1 z2 z3 ltBX ltBY ltBZ
  replace BX := Lib.hid (BX.out.here b3)
  replace BY := Lib.hid (BY.out.here b3)
  replace BZ := Lib.hid (BZ.out.here b3)
  have B3 := Lib.hid (thence B2.out b3 (Nat.le_refl _))
  replace R1 := Lib.hid (R1.out.here b3)
  have R2 := Lib.hid rg2
  clear b3 B2 rg2
  obtain ⟨c0, c1, c2, c3, c4, c5⟩ := BX.out.six
  have ltBX := BX.out.lt
  obtain ⟨y0, y1, y2, y3⟩ := BY.out.four
  have ltBY := BY.out.lt
  obtain ⟨z0, z1, z2, z3⟩ := BZ.out.four
  have ltBZ := BZ.out.lt
  go_wp2_with fail
  (with_reducible refine (CT.out _).mono ?_)
  rintro e w4 ⟨rfl, b4⟩
  clear c0 c1 c2 c3 c4 c5 y0 y1 y2 y3 z0 z1 z2 z3 ltBX ltBY ltBZ
  replace BX := Lib.hid (BX.out.here b4)
  replace BY := Lib.hid (BY.out.here b4)
  replace BZ := Lib.hid (BZ.out.here b4)
  have B4 := Lib.hid (thence B3.out b4 (Nat.le_refl _))
  replace R1 := Lib.hid (R1.out.here b4)
  replace R2 := Lib.hid (R2.out.here b4)
  clear b4 B3
  obtain ⟨c0, c1, c2, c3, c4, c5⟩ := BX.out.six
  have ltBX := BX.out.lt
  obtain ⟨y0, y1, y2, y3⟩ := BY.out.four
  have ltBY := BY.out.lt
  obtain ⟨z0, z1, z2, z3⟩ := BZ.out.four
  have ltBZ := BZ.out.lt
  go_wp2_with fail
  (with_reducible refine (JB.out _).mono ?_)
  rintro e w5 ⟨rfl, b5⟩
  clear c0 c1 c2 c3 c4 c5 y0 y1 y2 y3 z0 z1 z2 z3 ltBX ltBY ltBZ
  replace BX := Lib.hid (BX.out.here b5)
  replace BY := Lib.hid (BY.out.here b5)
  replace BZ := Lib.hid (BZ.out.here b5)
  have B5 := Lib.hid (thence B4.out b5 (Nat.le_refl _))
  replace R1 := Lib.hid (R1.out.here b5)
  replace R2 := Lib.hid (R2.out.here b5)
  clear b5 B4
  obtain ⟨c0, c1, c2, c3, c4, c5⟩ := BX.out.six
  have ltBX := BX.out.lt
  obtain ⟨y0, y1, y2, y3⟩ := BY.out.four
  have ltBY := BY.out.lt
  obtain ⟨z0, z1, z2, z3⟩ := BZ.out.four
  have ltBZ := BZ.out.lt
  obtain rfl : n1 = ma := by rw [R1.out.long, BL1.out]
  obtain rfl : n2 = mb := by rw [R2.out.long, BL2.out]
  go_wp2_with fail
  clear c0 c1 c2 c3 c4 c5 y0 y1 y2 y3 z0 z1 z2 z3 ltBX ltBY ltBZ
  go_loopw [16, 17] (fun v x wr => ∃ i : Nat, i ≤ n1 ∧ x = .int .i64 i ∧ v = .bool (QK.met at_ at_' n2 i) ∧ Below w5.heap.size w5 wr) (fun _ x _ => n1 - (intOf x).toNat)
  case atStart => exact ⟨0, Nat.zero_le _, rfl, rfl, Below.refl _ _⟩
  case round =>
    obtain ⟨i, hi, rfl, rfl, hb⟩ := hrel
    have HB := Lib.hid hb
    have BYr := Lib.hid (BY.out.here hb)
    have BZr := Lib.hid (BZ.out.here hb)
    have R1r := Lib.hid (R1.out.here hb)
    have R2r := Lib.hid (R2.out.here hb)
    obtain ⟨y0, y1, y2, y3⟩ := BYr.out.four
    obtain ⟨z0, z1, z2, z3⟩ := BZr.out.four
    have ltBY := BYr.out.lt
    have ltBZ := BZr.out.lt
    clear hb
    by_cases hlt : i < n1
    · obtain ⟨lb, lo, ea, -, hlb⟩ := R1r.out.addr (by rw [BL1.out]; omega)
      subst ea
      have l0 := R1r.out.num (k := i) (by rw [BL1.out]; omega)
      rw [BG1.out i hlt] at l0
      have hltI : (i : Int) < (n1 : Int) := by omega
      have s1 : IntKind.i64.wrap (at_ + (i : Int)) = at_ + (i : Int) := IntWalk.i64_in _ (by omega)
      have f1 : ((at_ + (i : Int)) != (at_ + (i : Int))) = false := by rw [bne_self_eq_false]
      have f2 : decide (at_ + (i : Int) < 0) = false := by simp; omega
      have f3 : decide (nb ≤ at_ + (i : Int)) = false := by simp; omega
      go_wp2_with fail
      go_quiet (fail)
      go_wp2_with fail
      have HBq := Lib.hid (below_drewN HB.out nq)
      clear l0 y0 y1 y2 y3 z0 z1 z2 z3 ltBY ltBZ
      go_loopw [16, 18] (fun v x wz => ∃ kk : Nat, kk ≤ n2 ∧ x = .int .i64 kk ∧ v = .bool (QK.met at_ at_' n2 i || QK.inn (at_ + (i : Int)) at_' kk) ∧ Below w5.heap.size w5 wz) (fun _ x _ => n2 - (intOf x).toNat)
      case atStart => exact ⟨0, Nat.zero_le _, rfl, by simp [QK.inn], HBq.out⟩
      case round =>
        obtain ⟨kk, hk, rfl, rfl, hb⟩ := hrel
        have HBz := Lib.hid hb
        have R1z := Lib.hid (R1.out.here hb)
        have R2z := Lib.hid (R2.out.here hb)
        clear hb
        by_cases hk2 : kk < n2
        · obtain ⟨mb, mo, ea2, -, hmb⟩ := R2z.out.addr (by rw [BL2.out]; omega)
          subst ea2
          obtain ⟨b2, off2, e2, -, hlb2⟩ := R1z.out.addr (by rw [BL1.out]; omega)
          cases e2
          have l0 := R1z.out.num (k := i) (by rw [BL1.out]; omega)
          rw [BG1.out i hlt] at l0
          have m0 := R2z.out.num (k := kk) (by rw [BL2.out]; omega)
          rw [BG2.out kk hk2] at m0
          have hk2I : (kk : Int) < (n2 : Int) := by omega
          have NX : Hid ((QK.met at_ at_' n2 i || QK.inn (at_ + (i : Int)) at_' (kk + 1)) = ((QK.met at_ at_' n2 i || QK.inn (at_ + (i : Int)) at_' kk) || (at_ + (i : Int) == at_' + (kk : Int)))) := by
            show _ = _
            rw [Bool.or_assoc]; rfl
          generalize (QK.met at_ at_' n2 i || QK.inn (at_ + (i : Int)) at_' kk) = bv at *
          cases bv
          all_goals
            go_wp2_with fail
            go_quiet (fail)
            go_wp2_with fail
            go_roundw
            case rel => exact ⟨kk + 1, by omega, by go_num, by rw [NX.out]; simp, below_drewN HBz.out _⟩
            case measure => simp [intOf]; omega
        · obtain rfl : kk = n2 := by omega
          go_wp2_with fail
          go_roundw
          case rel => exact ⟨i + 1, by omega, by go_num, rfl, HBz.out⟩
          case measure => simp [intOf]; omega
    · obtain rfl : i = n1 := by omega
      cases hw1 : QK.wr k <;> cases hw2 : QK.wr k' <;> cases hmt : QK.met at_ at_' n2 i
      all_goals
        rw [hw1] at CW1
        rw [hw2] at CW2
        clear hw1 hw2 hmt
        go_wp2_with (first | ((with_reducible refine (CW1.out _).mono ?_); rintro e w7 ⟨rfl, rfl⟩) | ((with_reducible refine (CW2.out _).mono ?_); rintro e w7 ⟨rfl, rfl⟩))
        go_ret
        exact ⟨by simp, thence B5.out HB.out (Nat.le_refl _)⟩
end Go.Proofs.Ytbhehicfenkbcaa.PW
