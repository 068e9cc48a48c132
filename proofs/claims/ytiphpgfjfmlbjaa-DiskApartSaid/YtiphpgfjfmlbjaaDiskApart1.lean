/-
  DiskApart's walk: what is written in one place turns no other one, neither what is read there nor what lasts.
-/
import Derived.Test.YtiphpgfjfmlbjaaDiskAlive
namespace Go.Proofs.Ytiphpgfjfmlbjaa.PW
open Go.RowKit
open DK (Dv)
set_option linter.unusedVariables false
set_option linter.unusedSimpArgs false

theorem rcode_like {D E : Dv} (h1 : DK.may D = true) (h2 : DK.may E = true) (h3 : D.bs.length = E.bs.length) (h4 : D.dead = E.dead) (o : Int) : DK.rcode D o = DK.rcode E o := by
  unfold DK.rcode
  rw [h1, h2, has_len h3, h4]
theorem apart_put {D : Dv} {at_ : Int} {l : List Nat} {o : Int} (h : DK.wcode' D at_ l = 0) (hne : at_ ≠ o) : rtext (DK.put D at_ l) o = rtext D o ∧ ltext (DK.put D at_ l) o = ltext D o ∧ DK.rcode (DK.put D at_ l) o = DK.rcode D o := by
  have hr : DK.rcode (DK.put D at_ l) o = DK.rcode D o := rcode_like (may_put h) (wcode_zero (wcode'_zero h).1).1 rfl rfl o
  unfold rtext ltext
  rw [hr, seen_put, if_neg hne, lies_put]
  exact ⟨rfl, rfl, rfl⟩
theorem apart_sure {D : Dv} {at_ : Int} {l : List Nat} {o : Int} (h : DK.wcode D at_ l = 0) (hne : at_ ≠ o) : rtext (DK.sure D at_ l) o = rtext D o ∧ ltext (DK.sure D at_ l) o = ltext D o ∧ DK.rcode (DK.sure D at_ l) o = DK.rcode D o := by
  obtain ⟨h1, h2, -, -⟩ := wcode_zero h
  have hr : DK.rcode (DK.sure D at_ l) o = DK.rcode D o := rcode_like (may_sure h) h1 (by simp [DK.sure]) rfl o
  unfold rtext ltext
  rw [hr]
  by_cases h0 : DK.rcode D o = 0
  · have ho := (DK.has_iff.1 (rcode_has h0).2.1).1
    rw [if_pos h0, if_pos h0, seen_sure h2 ho, lies_sure h2 ho, if_neg hne, if_neg hne]
    exact ⟨rfl, rfl, rfl⟩
  · simp [h0]

set_option maxRecDepth 100000 in
set_option maxHeartbeats 1000000 in
theorem apart_great (a : Option Addr) (n c : Nat) (a' : Option Addr) (n' c' : Nat) (D : Dv) (at_ : Int) (b : Option Addr) (len cap : Nat) (l : List Nat) (o : Int) (w : World) (hr : DevAt w.heap.size w a n c a' n' c' D) (hq : Rd w.heap.size w b len cap l) (hg : DK.great D = true) :
    Calls Try.prog 8 #[.agg #[.slice a n c, .slice a' n' c', .bool D.dead], .int .i64 at_, .slice b len cap, .int .i64 o] w fun e w' => e = .returned (.bool true) ∧ Below w.heap.size w w' := by
  have hb1 : Below w.heap.size w (w.alloc (.cells #[.slice a n c, .slice a' n' c', .bool D.dead] 25)) := (Below.refl _ _).alloc (Nat.le_refl _) _
  have bD := Bx.new w [.slice a n c, .slice a' n' c', .bool D.dead] 25
  have AL := Lib.hid alive_any
  have CG : Hid (∀ w1, Below w.heap.size w w1 → Calls Try.prog 16 #[.agg #[.slice a n c, .slice a' n' c', .bool D.dead]] w1 fun e w' => e = .returned (.bool (DK.great D)) ∧ Below w1.heap.size w1 w') := fun w1 h => great_any a n c a' n' c' D w1 (hr.here h)
  have HB := Lib.hid hb1
  have BD := Lib.hid bD
  have hls : len ≤ 9223372036854775807 := by have h1 := hq.long; have h2 := hq.fits; have h3 := hq.small; unfold maxLen at h3; omega
  have HL := Lib.hid hq.long
  clear hb1 bD hr hq
  rw [hg] at CG
  clear hg
  generalize D.dead = dd at *
  go_enter Try.func8, Try.ntmps8
  go_wp2_with fail
  refine (AL.out _).mono ?_
  rintro e w1 ⟨rfl, b1⟩
  have BD1 := Lib.hid (BD.out.here b1)
  obtain ⟨d0, d1, d2⟩ := BD1.out.three
  have HB1 := Lib.hid (thence HB.out b1 (Nat.le_refl _))
  clear b1
  go_wp2_with fail
  refine (CG.out _ HB1.out).mono ?_
  rintro e w2 ⟨rfl, b2⟩
  have BD2 := Lib.hid (BD1.out.here b2)
  obtain ⟨d0, d1, d2⟩ := BD2.out.three
  have HB2 := Lib.hid (thence HB1.out b2 (Nat.le_refl _))
  clear b2
  go_wp2_with fail
  go_ret
  exact ⟨rfl, HB2.out⟩

set_option maxRecDepth 100000 in
set_option maxHeartbeats 1000000 in
theorem apart_long (a : Option Addr) (n c : Nat) (a' : Option Addr) (n' c' : Nat) (D : Dv) (at_ : Int) (b : Option Addr) (len cap : Nat) (l : List Nat) (o : Int) (w : World) (hr : DevAt w.heap.size w a n c a' n' c' D) (hq : Rd w.heap.size w b len cap l) (hg : DK.great D = false) (hl : 1000 < l.length) :
    Calls Try.prog 8 #[.agg #[.slice a n c, .slice a' n' c', .bool D.dead], .int .i64 at_, .slice b len cap, .int .i64 o] w fun e w' => e = .returned (.bool true) ∧ Below w.heap.size w w' := by
  have hb1 : Below w.heap.size w (w.alloc (.cells #[.slice a n c, .slice a' n' c', .bool D.dead] 25)) := (Below.refl _ _).alloc (Nat.le_refl _) _
  have bD := Bx.new w [.slice a n c, .slice a' n' c', .bool D.dead] 25
  have AL := Lib.hid alive_any
  have CG : Hid (∀ w1, Below w.heap.size w w1 → Calls Try.prog 16 #[.agg #[.slice a n c, .slice a' n' c', .bool D.dead]] w1 fun e w' => e = .returned (.bool (DK.great D)) ∧ Below w1.heap.size w1 w') := fun w1 h => great_any a n c a' n' c' D w1 (hr.here h)
  have HB := Lib.hid hb1
  have BD := Lib.hid bD
  have hls : len ≤ 9223372036854775807 := by have h1 := hq.long; have h2 := hq.fits; have h3 := hq.small; unfold maxLen at h3; omega
  have HL := Lib.hid hq.long
  clear hb1 bD hr hq
  rw [hg] at CG
  have i1 : (1000 : Int) < (len : Int) := by have := HL.out; omega
  clear hg
  generalize D.dead = dd at *
  go_enter Try.func8, Try.ntmps8
  go_wp2_with fail
  refine (AL.out _).mono ?_
  rintro e w1 ⟨rfl, b1⟩
  have BD1 := Lib.hid (BD.out.here b1)
  obtain ⟨d0, d1, d2⟩ := BD1.out.three
  have HB1 := Lib.hid (thence HB.out b1 (Nat.le_refl _))
  clear b1
  go_wp2_with fail
  refine (CG.out _ HB1.out).mono ?_
  rintro e w2 ⟨rfl, b2⟩
  have BD2 := Lib.hid (BD1.out.here b2)
  obtain ⟨d0, d1, d2⟩ := BD2.out.three
  have HB2 := Lib.hid (thence HB1.out b2 (Nat.le_refl _))
  clear b2
  go_wp2_with fail
  go_ret
  exact ⟨rfl, HB2.out⟩

set_option maxRecDepth 100000 in
set_option maxHeartbeats 1000000 in
theorem apart_self (a : Option Addr) (n c : Nat) (a' : Option Addr) (n' c' : Nat) (D : Dv) (at_ : Int) (b : Option Addr) (len cap : Nat) (l : List Nat) (o : Int) (w : World) (hr : DevAt w.heap.size w a n c a' n' c' D) (hq : Rd w.heap.size w b len cap l) (hg : DK.great D = false) (hl : l.length ≤ 1000) (he : at_ = o) :
    Calls Try.prog 8 #[.agg #[.slice a n c, .slice a' n' c', .bool D.dead], .int .i64 at_, .slice b len cap, .int .i64 o] w fun e w' => e = .returned (.bool true) ∧ Below w.heap.size w w' := by
  have hb1 : Below w.heap.size w (w.alloc (.cells #[.slice a n c, .slice a' n' c', .bool D.dead] 25)) := (Below.refl _ _).alloc (Nat.le_refl _) _
  have bD := Bx.new w [.slice a n c, .slice a' n' c', .bool D.dead] 25
  have AL := Lib.hid alive_any
  have CG : Hid (∀ w1, Below w.heap.size w w1 → Calls Try.prog 16 #[.agg #[.slice a n c, .slice a' n' c', .bool D.dead]] w1 fun e w' => e = .returned (.bool (DK.great D)) ∧ Below w1.heap.size w1 w') := fun w1 h => great_any a n c a' n' c' D w1 (hr.here h)
  have HB := Lib.hid hb1
  have BD := Lib.hid bD
  have hls : len ≤ 9223372036854775807 := by have h1 := hq.long; have h2 := hq.fits; have h3 := hq.small; unfold maxLen at h3; omega
  have HL := Lib.hid hq.long
  clear hb1 bD hr hq
  rw [hg] at CG
  have i1 : ¬ (1000 : Int) < (len : Int) := by have := HL.out; omega
  clear hg
  subst he
  generalize D.dead = dd at *
  go_enter Try.func8, Try.ntmps8
  go_wp2_with fail
  refine (AL.out _).mono ?_
  rintro e w1 ⟨rfl, b1⟩
  have BD1 := Lib.hid (BD.out.here b1)
  obtain ⟨d0, d1, d2⟩ := BD1.out.three
  have HB1 := Lib.hid (thence HB.out b1 (Nat.le_refl _))
  clear b1
  go_wp2_with fail
  refine (CG.out _ HB1.out).mono ?_
  rintro e w2 ⟨rfl, b2⟩
  have BD2 := Lib.hid (BD1.out.here b2)
  obtain ⟨d0, d1, d2⟩ := BD2.out.three
  have HB2 := Lib.hid (thence HB1.out b2 (Nat.le_refl _))
  clear b2
  go_wp2_with fail
  go_ret
  exact ⟨rfl, HB2.out⟩

set_option maxRecDepth 100000 in
set_option maxHeartbeats 2000000 in
theorem apart_main (a : Option Addr) (n c : Nat) (a' : Option Addr) (n' c' : Nat) (D : Dv) (at_ : Int) (b : Option Addr) (len cap : Nat) (l : List Nat) (o : Int) (w : World) (hr : DevAt w.heap.size w a n c a' n' c' D) (hq : Rd w.heap.size w b len cap l) (hg : DK.great D = false) (hl : l.length ≤ 1000) (hne : at_ ≠ o) :
    Calls Try.prog 8 #[.agg #[.slice a n c, .slice a' n' c', .bool D.dead], .int .i64 at_, .slice b len cap, .int .i64 o] w fun e w' => e = .returned (.bool true) ∧ Below w.heap.size w w' := by
  have hb1 : Below w.heap.size w (w.alloc (.cells #[.slice a n c, .slice a' n' c', .bool D.dead] 25)) := (Below.refl _ _).alloc (Nat.le_refl _) _
  have bD := Bx.new w [.slice a n c, .slice a' n' c', .bool D.dead] 25
  have AL := Lib.hid alive_any
  have CG : Hid (∀ w1, Below w.heap.size w w1 → Calls Try.prog 16 #[.agg #[.slice a n c, .slice a' n' c', .bool D.dead]] w1 fun e w' => e = .returned (.bool (DK.great D)) ∧ Below w1.heap.size w1 w') := fun w1 h => great_any a n c a' n' c' D w1 (hr.here h)
  have HB := Lib.hid hb1
  have BD := Lib.hid bD
  have hls : len ≤ 9223372036854775807 := by have h1 := hq.long; have h2 := hq.fits; have h3 := hq.small; unfold maxLen at h3; omega
  have HL := Lib.hid hq.long
  have hf := fit_of hg
  rw [hg] at CG
  have CW : Hid (∀ w1, Below w.heap.size w w1 → Calls Try.prog 11 #[.agg #[.slice a n c, .slice a' n' c', .bool D.dead], .int .i64 at_, .slice b len cap] w1 (NewDev w1 (writeDev D at_ l) (DK.wcode' D at_ l))) := fun w1 h => write_any a n c a' n' c' D at_ b len cap l w1 (hr.here h) hf (hq.here h) (by omega)
  have CU : Hid (∀ w1, Below w.heap.size w w1 → Calls Try.prog 28 #[.agg #[.slice a n c, .slice a' n' c', .bool D.dead], .int .i64 at_, .slice b len cap] w1 (NewDev w1 (fuaDev D at_ l) (DK.wcode D at_ l))) := fun w1 h => fua_any a n c a' n' c' D at_ b len cap l w1 (hr.here h) hf (hq.here h) (by omega)
  have CR : Hid (∀ w1, Below w.heap.size w w1 → Calls Try.prog 10 #[.agg #[.slice a n c, .slice a' n' c', .bool D.dead], .int .i64 o] w1 (TheTx w1 (rtext D o) (DK.rcode D o))) := fun w1 h => read_tx a n c a' n' c' D o w1 (hr.here h)
  have CS : Hid (∀ w1, Below w.heap.size w w1 → Calls Try.prog 19 #[.agg #[.slice a n c, .slice a' n' c', .bool D.dead], .int .i64 o] w1 (TheTx w1 (ltext D o) (DK.rcode D o))) := fun w1 h => lasting_tx a n c a' n' c' D o w1 (hr.here h)
  have CR1 : Hid (DK.wcode' D at_ l = 0 → ∀ w1 a n c a' n' c', DevAt w1.heap.size w1 a n c a' n' c' (writeDev D at_ l) → Calls Try.prog 10 #[.agg #[.slice a n c, .slice a' n' c', .bool (writeDev D at_ l).dead], .int .i64 o] w1 (TheTx w1 (rtext D o) (DK.rcode D o))) := fun h w1 a n c a' n' c' hd => by
    have e : writeDev D at_ l = DK.put D at_ l := by simp [writeDev, h]
    obtain ⟨p1, p2, p3⟩ := apart_put (o := o) h hne
    have := read_tx a n c a' n' c' _ o w1 hd
    rw [e, p1, p3] at this; rw [e]; exact this
  have CS1 : Hid (DK.wcode' D at_ l = 0 → ∀ w1 a n c a' n' c', DevAt w1.heap.size w1 a n c a' n' c' (writeDev D at_ l) → Calls Try.prog 19 #[.agg #[.slice a n c, .slice a' n' c', .bool (writeDev D at_ l).dead], .int .i64 o] w1 (TheTx w1 (ltext D o) (DK.rcode D o))) := fun h w1 a n c a' n' c' hd => by
    have e : writeDev D at_ l = DK.put D at_ l := by simp [writeDev, h]
    obtain ⟨p1, p2, p3⟩ := apart_put (o := o) h hne
    have := lasting_tx a n c a' n' c' _ o w1 hd
    rw [e, p2, p3] at this; rw [e]; exact this
  have CR2 : Hid (DK.wcode D at_ l = 0 → ∀ w1 a n c a' n' c', DevAt w1.heap.size w1 a n c a' n' c' (fuaDev D at_ l) → Calls Try.prog 10 #[.agg #[.slice a n c, .slice a' n' c', .bool (fuaDev D at_ l).dead], .int .i64 o] w1 (TheTx w1 (rtext D o) (DK.rcode D o))) := fun h w1 a n c a' n' c' hd => by
    have e : fuaDev D at_ l = DK.sure D at_ l := by simp [fuaDev, h]
    obtain ⟨p1, p2, p3⟩ := apart_sure (o := o) h hne
    have := read_tx a n c a' n' c' _ o w1 hd
    rw [e, p1, p3] at this; rw [e]; exact this
  have CS2 : Hid (DK.wcode D at_ l = 0 → ∀ w1 a n c a' n' c', DevAt w1.heap.size w1 a n c a' n' c' (fuaDev D at_ l) → Calls Try.prog 19 #[.agg #[.slice a n c, .slice a' n' c', .bool (fuaDev D at_ l).dead], .int .i64 o] w1 (TheTx w1 (ltext D o) (DK.rcode D o))) := fun h w1 a n c a' n' c' hd => by
    have e : fuaDev D at_ l = DK.sure D at_ l := by simp [fuaDev, h]
    obtain ⟨p1, p2, p3⟩ := apart_sure (o := o) h hne
    have := lasting_tx a n c a' n' c' _ o w1 hd
    rw [e, p2, p3] at this; rw [e]; exact this
  have HN2 : Hid (DK.wcode D at_ l ≠ 0 → (fuaDev D at_ l).bs.length = 0) := fun h => by simp [fuaDev, h, DK.Dv.nil]
  have i1 : ¬ (1000 : Int) < (len : Int) := by have := HL.out; omega
  have e1 : (at_ == o) = false := by rw [beq_eq_false_iff_ne]; exact hne
  clear hb1 bD hr hq hg hf hl
  generalize hE1 : writeDev D at_ l = E1 at *
  generalize hE2 : fuaDev D at_ l = E2 at *
  generalize hk1 : DK.wcode' D at_ l = k1 at *
  generalize hk2 : DK.wcode D at_ l = k2 at *
  generalize rtext D o = m at *
  generalize ltext D o = m' at *
  generalize DK.rcode D o = q at *
  generalize D.dead = dd at *
  clear hE1 hE2 hk1 hk2
  go_enter Try.func8, Try.ntmps8
  go_wp2_with fail
  refine (AL.out _).mono ?_
  rintro e w1 ⟨rfl, b1⟩
  have BD1 := Lib.hid (BD.out.here b1)
  obtain ⟨d0, d1, d2⟩ := BD1.out.three
  have HB1 := Lib.hid (thence HB.out b1 (Nat.le_refl _))
  clear b1
  go_wp2_with fail
  refine (CG.out _ HB1.out).mono ?_
  rintro e w2 ⟨rfl, b2⟩
  have BD2 := Lib.hid (BD1.out.here b2)
  obtain ⟨d0, d1, d2⟩ := BD2.out.three
  have HB2 := Lib.hid (thence HB1.out b2 (Nat.le_refl _))
  clear b2
  go_wp2_with fail
  refine (CW.out _ HB2.out).mono ?_
  intro e w3 hn
  obtain ⟨a3, n3, c3, a3', n3', c3', rfl, -, at3, b3⟩ := hn.open
  have BD3 := Lib.hid (BD2.out.here b3)
  have HB3 := Lib.hid (thence HB2.out b3 (Nat.le_refl _))
  have bx3 := Bx.new w3 [.slice a3 n3 c3, .slice a3' n3' c3', .bool E1.dead] 25
  have bb3 : Below w3.heap.size w3 (w3.alloc (.cells [Value.slice a3 n3 c3, .slice a3' n3' c3', .bool E1.dead].toArray 25)) := (Below.refl _ _).alloc (Nat.le_refl _) _
  have BX3 := Lib.hid bx3
  have BB3 := Lib.hid bb3
  have AT3 := Lib.hid (at3.here bb3)
  obtain ⟨d0, d1, d2⟩ := BD3.out.three
  have l3 := BD3.out.lt
  clear hn at3 b3 bx3 bb3
  go_wp2_with fail
  refine (CU.out _ (thence HB3.out BB3.out (Nat.le_refl _))).mono ?_
  intro e w4 hn
  obtain ⟨a4, n4, c4, a4', n4', c4', rfl, -, at4, b4⟩ := hn.open
  have HN4 : Hid (k2 ≠ 0 → n4 = 0) := fun h => by rw [at4.long.1]; exact HN2.out h
  have BD4 := Lib.hid ((BD3.out.here BB3.out).here b4)
  have BX4 := Lib.hid (BX3.out.here b4)
  have AT34 := Lib.hid (AT3.out.here b4)
  have HB4 := Lib.hid (thence (thence HB3.out BB3.out (Nat.le_refl _)) b4 (Nat.le_refl _))
  have bx4 := Bx.new w4 [.slice a4 n4 c4, .slice a4' n4' c4', .bool E2.dead] 25
  have bb4 : Below w4.heap.size w4 (w4.alloc (.cells [Value.slice a4 n4 c4, .slice a4' n4' c4', .bool E2.dead].toArray 25)) := (Below.refl _ _).alloc (Nat.le_refl _) _
  have BX44 := Lib.hid bx4
  have BB4 := Lib.hid bb4
  have AT4 := Lib.hid (at4.here bb4)
  have sm4 := at4.small.1
  unfold maxLen at sm4
  obtain ⟨d0, d1, d2⟩ := BD4.out.three
  have l4 := BD4.out.lt
  clear hn at4 b4 bx4 bb4
  go_wp2_with fail
  refine (CR.out _ (thence HB4.out BB4.out (Nat.le_refl _))).mono ?_
  rintro e w5 ⟨a5, n5, c5, rfl, it5, b5⟩
  have IT5 := Lib.hid it5
  have BD5 := Lib.hid ((BD4.out.here BB4.out).here b5)
  have BX5 := Lib.hid ((BX4.out.here BB4.out).here b5)
  have BX55 := Lib.hid (BX44.out.here b5)
  have AT35 := Lib.hid ((AT34.out.here BB4.out).here b5)
  have AT45 := Lib.hid (AT4.out.here b5)
  have HB5 := Lib.hid (thence (thence HB4.out BB4.out (Nat.le_refl _)) b5 (Nat.le_refl _))
  obtain ⟨d0, d1, d2⟩ := BD5.out.three
  clear it5 b5
  go_wp2_with fail
  refine (CS.out _ HB5.out).mono ?_
  rintro e w6 ⟨a6, n6, c6, rfl, it6, b6⟩
  have IT6 := Lib.hid it6
  have IT56 := Lib.hid (IT5.out.here b6)
  have BX6 := Lib.hid (BX5.out.here b6)
  have BX66 := Lib.hid (BX55.out.here b6)
  have AT36 := Lib.hid (AT35.out.here b6)
  have AT46 := Lib.hid (AT45.out.here b6)
  have HB6 := Lib.hid (thence HB5.out b6 (Nat.le_refl _))
  obtain ⟨x0, x1, x2⟩ := BX6.out.three
  obtain ⟨z0, z1, z2⟩ := BX66.out.three
  clear it6 b6
  by_cases h1 : k1 = 0
  · subst h1
    have CR1' := Lib.hid (CR1.out rfl)
    have CS1' := Lib.hid (CS1.out rfl)
    clear CR1 CS1
    go_wp2_with fail
    refine (CR1'.out _ _ _ _ _ _ _ AT36.out).mono ?_
    rintro e w7 ⟨a7, n7, c7, rfl, it7, b7⟩
    have IT7 := Lib.hid it7
    have B7 := Lib.hid b7
    obtain ⟨x0, x1, x2⟩ := (BX6.out.here b7).three
    clear it7 b7
    go_wp2_with fail
    refine (CS1'.out _ _ _ _ _ _ _ (AT36.out.here B7.out)).mono ?_
    rintro e w8 ⟨a8, n8, c8, rfl, it8, b8⟩
    have B8 := Lib.hid (thence B7.out b8 (Nat.le_refl _))
    have T1 := text_is w8 _ _ _ _ (IT7.out.here b8).rd
    have T2 := text_is w8 _ _ _ _ (IT56.out.here B8.out).rd
    have T3 := text_is w8 _ _ _ _ it8.rd
    have T4 := text_is w8 _ _ _ _ (IT6.out.here B8.out).rd
    obtain ⟨z0, z1, z2⟩ := (BX66.out.here B8.out).three
    have BX88 := Lib.hid (BX66.out.here B8.out)
    have AT48 := Lib.hid (AT46.out.here B8.out)
    have HB8 := Lib.hid (thence HB6.out B8.out (Nat.le_refl _))
    have IT58 := Lib.hid (IT56.out.here B8.out)
    have IT68 := Lib.hid (IT6.out.here B8.out)
    generalize hsm : str m = sm at *
    generalize hsm' : str m' = sm' at *
    have HSM := Lib.hid hsm
    have HSM' := Lib.hid hsm'
    clear it8 b8 hsm hsm'
    by_cases h2 : k2 = 0
    · subst h2
      have CR2' := Lib.hid (CR2.out rfl)
      have CS2' := Lib.hid (CS2.out rfl)
      clear CR2 CS2
      go_wp2_with fail
      refine (CR2'.out _ _ _ _ _ _ _ AT48.out).mono ?_
      rintro e w9 ⟨a9, n9, c9, rfl, it9, b9⟩
      have IT9 := Lib.hid it9
      have B9 := Lib.hid b9
      obtain ⟨x0, x1, x2⟩ := (BX88.out.here b9).three
      clear it9 b9
      go_wp2_with fail
      refine (CS2'.out _ _ _ _ _ _ _ (AT48.out.here B9.out)).mono ?_
      rintro e w10 ⟨a10, n10, c10, rfl, it10, b10⟩
      have B10 := Lib.hid (thence B9.out b10 (Nat.le_refl _))
      have S1 := text_is w10 _ _ _ _ (IT9.out.here b10).rd
      have S2 := text_is w10 _ _ _ _ (IT58.out.here B10.out).rd
      have S3 := text_is w10 _ _ _ _ it10.rd
      have S4 := text_is w10 _ _ _ _ (IT68.out.here B10.out).rd
      rw [HSM.out] at S1 S2
      rw [HSM'.out] at S3 S4
      clear it10 b10
      go_wp2_with fail
      go_ret
      exact ⟨rfl, thence HB8.out B10.out (Nat.le_refl _)⟩
    · have f2 : ((k2 : Int) == 0) = false := by rw [beq_eq_false_iff_ne]; omega
      have hn4 := HN4.out h2
      subst hn4
      go_wp2_with fail
      go_ret
      exact ⟨rfl, HB8.out⟩
  · have f1 : ((k1 : Int) == 0) = false := by rw [beq_eq_false_iff_ne]; omega
    have BX88 := Lib.hid BX66.out
    have AT48 := Lib.hid AT46.out
    have HB8 := Lib.hid HB6.out
    have IT58 := Lib.hid IT56.out
    have IT68 := Lib.hid IT6.out
    obtain ⟨sm, hsm⟩ : ∃ s, str m = s := ⟨_, rfl⟩
    obtain ⟨sm', hsm'⟩ : ∃ s, str m' = s := ⟨_, rfl⟩
    have HSM := Lib.hid hsm
    have HSM' := Lib.hid hsm'
    clear CR1 CS1 hsm hsm'
    by_cases h2 : k2 = 0
    · subst h2
      have CR2' := Lib.hid (CR2.out rfl)
      have CS2' := Lib.hid (CS2.out rfl)
      clear CR2 CS2
      go_wp2_with fail
      refine (CR2'.out _ _ _ _ _ _ _ AT48.out).mono ?_
      rintro e w9 ⟨a9, n9, c9, rfl, it9, b9⟩
      have IT9 := Lib.hid it9
      have B9 := Lib.hid b9
      obtain ⟨x0, x1, x2⟩ := (BX88.out.here b9).three
      clear it9 b9
      go_wp2_with fail
      refine (CS2'.out _ _ _ _ _ _ _ (AT48.out.here B9.out)).mono ?_
      rintro e w10 ⟨a10, n10, c10, rfl, it10, b10⟩
      have B10 := Lib.hid (thence B9.out b10 (Nat.le_refl _))
      have S1 := text_is w10 _ _ _ _ (IT9.out.here b10).rd
      have S2 := text_is w10 _ _ _ _ (IT58.out.here B10.out).rd
      have S3 := text_is w10 _ _ _ _ it10.rd
      have S4 := text_is w10 _ _ _ _ (IT68.out.here B10.out).rd
      rw [HSM.out] at S1 S2
      rw [HSM'.out] at S3 S4
      clear it10 b10
      go_wp2_with fail
      go_ret
      exact ⟨rfl, thence HB8.out B10.out (Nat.le_refl _)⟩
    · have f2 : ((k2 : Int) == 0) = false := by rw [beq_eq_false_iff_ne]; omega
      have hn4 := HN4.out h2
      subst hn4
      go_wp2_with fail
      go_ret
      exact ⟨rfl, HB8.out⟩

theorem apart_walk (a : Option Addr) (n c : Nat) (a' : Option Addr) (n' c' : Nat) (D : Dv) (at_ : Int) (b : Option Addr) (len cap : Nat) (l : List Nat) (o : Int) (w : World) (hr : DevAt w.heap.size w a n c a' n' c' D) (hq : Rd w.heap.size w b len cap l) :
    Calls Try.prog 8 #[.agg #[.slice a n c, .slice a' n' c', .bool D.dead], .int .i64 at_, .slice b len cap, .int .i64 o] w fun e w' => e = .returned (.bool true) ∧ Below w.heap.size w w' := by
  rcases Bool.eq_false_or_eq_true (DK.great D) with hg | hg
  · exact apart_great a n c a' n' c' D at_ b len cap l o w hr hq hg
  · by_cases hl : 1000 < l.length
    · exact apart_long a n c a' n' c' D at_ b len cap l o w hr hq hg hl
    · by_cases he : at_ = o
      · exact apart_self a n c a' n' c' D at_ b len cap l o w hr hq hg (by omega) he
      · exact apart_main a n c a' n' c' D at_ b len cap l o w hr hq hg (by omega) he
end Go.Proofs.Ytiphpgfjfmlbjaa.PW
