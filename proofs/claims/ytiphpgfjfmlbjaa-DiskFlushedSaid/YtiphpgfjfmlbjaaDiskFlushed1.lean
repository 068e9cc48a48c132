/-
  DiskFlushed's walk: behind a flush what lasts is what was read, and nothing waits; to flush twice is to flush once.
-/
import Derived.Test.YtiphpgfjfmlbjaaDiskAlive
namespace Go.Proofs.Ytiphpgfjfmlbjaa.PW
open Go.RowKit
open DK (Dv)
set_option linter.unusedVariables false
set_option linter.unusedSimpArgs false

theorem flushed_twice (D : Dv) : DK.flushed (DK.flushed D) = DK.flushed D := rfl
theorem rcode_flushed {D : Dv} (h : DK.fcode D = 0) (at_ : Int) : DK.rcode (DK.flushed D) at_ = DK.rcode D at_ := by
  obtain ⟨h1, h2⟩ := fcode_zero h
  have h3 := may_flushed h
  unfold DK.rcode
  rw [h1, h3, has_len (E := D) (lay_length _ _) at_]
  rfl
theorem ltext_flushed {D : Dv} (h : DK.fcode D = 0) (at_ : Int) : ltext (DK.flushed D) at_ = rtext D at_ := by
  unfold ltext rtext
  rw [rcode_flushed h]
  split
  · next h0 =>
    obtain ⟨h1, h2, _⟩ := rcode_has h0
    exact lies_flushed h1 (DK.has_iff.1 h2).1
  · rfl

set_option maxRecDepth 100000 in
set_option maxHeartbeats 1000000 in
theorem flushed_walk (a : Option Addr) (n c : Nat) (a' : Option Addr) (n' c' : Nat) (D : Dv) (at_ : Int) (w : World) (hr : DevAt w.heap.size w a n c a' n' c' D) :
    Calls Try.prog 7 #[.agg #[.slice a n c, .slice a' n' c', .bool D.dead], .int .i64 at_] w fun e w' => e = .returned (.bool true) ∧ Below w.heap.size w w' := by
  have hb1 : Below w.heap.size w (w.alloc (.cells #[.slice a n c, .slice a' n' c', .bool D.dead] 25)) := (Below.refl _ _).alloc (Nat.le_refl _) _
  have bD := Bx.new w [.slice a n c, .slice a' n' c', .bool D.dead] 25
  have AL := Lib.hid alive_any
  have CG : Hid (∀ w1, Below w.heap.size w w1 → Calls Try.prog 16 #[.agg #[.slice a n c, .slice a' n' c', .bool D.dead]] w1 fun e w' => e = .returned (.bool (DK.great D)) ∧ Below w1.heap.size w1 w') := fun w1 h => great_any a n c a' n' c' D w1 (hr.here h)
  have Hr := Lib.hid hr
  have HB := Lib.hid hb1
  have BD := Lib.hid bD
  clear hb1 bD hr
  rcases Bool.eq_false_or_eq_true (DK.great D) with hg | hg
  · rw [hg] at CG
    clear hg Hr
    generalize D.dead = dd at *
    go_enter Try.func7, Try.ntmps7
    go_wp2_with fail
    refine (AL.out _).mono ?_
    rintro e w1 ⟨rfl, b1⟩
    obtain ⟨d0, d1, d2⟩ := (BD.out.here b1).three
    have HB1 := Lib.hid (thence HB.out b1 (Nat.le_refl _))
    clear b1
    go_wp2_with fail
    refine (CG.out _ HB1.out).mono ?_
    rintro e w2 ⟨rfl, b2⟩
    have HB2 := Lib.hid (thence HB1.out b2 (Nat.le_refl _))
    clear b2
    go_wp2_with fail
    go_ret
    exact ⟨rfl, HB2.out⟩
  have hf := fit_of hg
  rw [hg] at CG
  have CL : Hid (∀ w1, Below w.heap.size w w1 → Calls Try.prog 30 #[.agg #[.slice a n c, .slice a' n' c', .bool D.dead]] w1 (NewDev w1 (flushDev D) (DK.fcode D))) := fun w1 h => flush_any a n c a' n' c' D w1 (Hr.out.here h) hf
  by_cases h0 : DK.fcode D = 0
  · obtain ⟨hm, hdd⟩ := fcode_zero h0
    have hF : flushDev D = DK.flushed D := by simp [flushDev, h0]
    have mF := may_flushed h0
    have fF : DK.fcode (DK.flushed D) = 0 := fcode_of mF hdd
    have dF : (DK.flushed D).dead = false := hdd
    rw [h0, hF] at CL
    have CL2 : Hid (∀ w1 a n c a' n' c', DevAt w1.heap.size w1 a n c a' n' c' (DK.flushed D) → Calls Try.prog 30 #[.agg #[.slice a n c, .slice a' n' c', .bool false]] w1 (NewDev w1 (DK.flushed D) 0)) := fun w1 a n c a' n' c' hd => by
      have := flush_any a n c a' n' c' (DK.flushed D) w1 hd (fit_may mF)
      rw [show flushDev (DK.flushed D) = DK.flushed D by simp [flushDev, fF, flushed_twice], fF, dF] at this; exact this
    have CR : Hid (∀ w1, Below w.heap.size w w1 → Calls Try.prog 10 #[.agg #[.slice a n c, .slice a' n' c', .bool D.dead], .int .i64 at_] w1 (TheTx w1 (rtext D at_) (DK.rcode D at_))) := fun w1 h => read_tx a n c a' n' c' D at_ w1 (Hr.out.here h)
    have CS : Hid (∀ w1 a n c a' n' c', DevAt w1.heap.size w1 a n c a' n' c' (DK.flushed D) → Calls Try.prog 19 #[.agg #[.slice a n c, .slice a' n' c', .bool false], .int .i64 at_] w1 (TheTx w1 (rtext D at_) (DK.rcode D at_))) := fun w1 a n c a' n' c' hd => by
      have := lasting_tx a n c a' n' c' (DK.flushed D) at_ w1 hd
      rw [ltext_flushed h0, rcode_flushed h0, dF] at this; exact this
    have CE : Hid (∀ w1 a n c a' n' c' b m d b' m' d', DevAt w1.heap.size w1 a n c a' n' c' (DK.flushed D) → DevAt w1.heap.size w1 b m d b' m' d' (DK.flushed D) → Calls Try.prog 25 #[.agg #[.slice a n c, .slice a' n' c', .bool false], .agg #[.slice b m d, .slice b' m' d', .bool false]] w1 fun e w' => e = .returned (.bool true) ∧ Below w1.heap.size w1 w') := fun w1 a n c a' n' c' b m d b' m' d' h1 h2 => by
      have := same_any a n c a' n' c' (DK.flushed D) b m d b' m' d' (DK.flushed D) w1 h1 h2
      rw [DK.same_self, dF] at this; exact this
    have CC : Hid (∀ w1 a n c a' n' c', DevAt w1.heap.size w1 a n c a' n' c' (DK.flushed D) → Calls Try.prog 15 #[.agg #[.slice a n c, .slice a' n' c', .bool false]] w1 fun e w' => e = .returned (.int .i64 0) ∧ Below w1.heap.size w1 w') := fun w1 a n c a' n' c' hd => by
      have := check_any a n c a' n' c' (DK.flushed D) w1 hd
      rw [kcode_may mF, dF] at this; exact this
    have WF : Hid ((DK.flushed D).ws.length = 0) := rfl
    clear hm hF mF fF hg hf h0 Hr
    generalize DK.flushed D = F at *
    generalize rtext D at_ = m at *
    generalize DK.rcode D at_ = q at *
    rw [hdd] at CG CL CR HB BD ⊢
    clear hdd
    go_enter Try.func7, Try.ntmps7
    go_wp2_with fail
    refine (AL.out _).mono ?_
    rintro e w1 ⟨rfl, b1⟩
    have BD1 := Lib.hid (BD.out.here b1)
    obtain ⟨d0, d1, d2⟩ := BD1.out.three
    have HB1 := Lib.hid (thence HB.out b1 (Nat.le_refl _))
    clear b1
    go_wp2_with fail
    refine (CG.out _ HB1.out).mono ?_
    rintro e w2 ⟨rfl, b2⟩
    have BD2 := Lib.hid (BD1.out.here b2)
    obtain ⟨d0, d1, d2⟩ := BD2.out.three
    have HB2 := Lib.hid (thence HB1.out b2 (Nat.le_refl _))
    clear b2
    go_wp2_with fail
    refine (CL.out _ HB2.out).mono ?_
    intro e w3 hn
    obtain ⟨a3, n3, c3, a3', n3', c3', rfl, -, at3, b3⟩ := hn.open
    rw [dF]
    have hn3 : n3' = 0 := by rw [at3.long.2]; exact WF.out
    subst hn3
    have BD3 := Lib.hid (BD2.out.here b3)
    have HB3 := Lib.hid (thence HB2.out b3 (Nat.le_refl _))
    have bx3 := Bx.new w3 [.slice a3 n3 c3, .slice a3' 0 c3', .bool false] 25
    have bb3 : Below w3.heap.size w3 (w3.alloc (.cells [Value.slice a3 n3 c3, .slice a3' 0 c3', .bool false].toArray 25)) := (Below.refl _ _).alloc (Nat.le_refl _) _
    have BX3 := Lib.hid bx3
    have BB3 := Lib.hid bb3
    have AT3 := Lib.hid (at3.here bb3)
    obtain ⟨d0, d1, d2⟩ := BD3.out.three
    have l3 := BD3.out.lt
    clear hn at3 b3 bx3 bb3
    go_wp2_with fail
    refine (CL2.out _ _ _ _ _ _ _ AT3.out).mono ?_
    intro e w4 hn
    obtain ⟨a4, n4, c4, a4', n4', c4', rfl, -, at4, b4⟩ := hn.open
    rw [dF]
    have BD4 := Lib.hid ((BD3.out.here BB3.out).here b4)
    have BX4 := Lib.hid (BX3.out.here b4)
    have AT34 := Lib.hid (AT3.out.here b4)
    have HB4 := Lib.hid (thence (thence HB3.out BB3.out (Nat.le_refl _)) b4 (Nat.le_refl _))
    have bx4 := Bx.new w4 [.slice a4 n4 c4, .slice a4' n4' c4', .bool false] 25
    have bb4 : Below w4.heap.size w4 (w4.alloc (.cells [Value.slice a4 n4 c4, .slice a4' n4' c4', .bool false].toArray 25)) := (Below.refl _ _).alloc (Nat.le_refl _) _
    have BX44 := Lib.hid bx4
    have BB4 := Lib.hid bb4
    have AT4 := Lib.hid (at4.here bb4)
    obtain ⟨d0, d1, d2⟩ := BD4.out.three
    obtain ⟨x0, x1, x2⟩ := BX4.out.three
    have l4 := BD4.out.lt
    have l5 := BX4.out.lt
    clear hn at4 b4 bx4 bb4
    go_wp2_with fail
    refine (CR.out _ (thence HB4.out BB4.out (Nat.le_refl _))).mono ?_
    rintro e w5 ⟨a5, n5, c5, rfl, it5, b5⟩
    have IT5 := Lib.hid it5
    have BX5 := Lib.hid ((BX4.out.here BB4.out).here b5)
    have BX55 := Lib.hid (BX44.out.here b5)
    have AT35 := Lib.hid ((AT34.out.here BB4.out).here b5)
    have AT45 := Lib.hid (AT4.out.here b5)
    have HB5 := Lib.hid (thence (thence HB4.out BB4.out (Nat.le_refl _)) b5 (Nat.le_refl _))
    obtain ⟨x0, x1, x2⟩ := BX5.out.three
    clear it5 b5
    go_wp2_with fail
    refine (CS.out _ _ _ _ _ _ _ AT35.out).mono ?_
    rintro e w6 ⟨a6, n6, c6, rfl, it6, b6⟩
    have IT6 := Lib.hid it6
    have IT56 := Lib.hid (IT5.out.here b6)
    have BX6 := Lib.hid (BX5.out.here b6)
    have BX66 := Lib.hid (BX55.out.here b6)
    have AT36 := Lib.hid (AT35.out.here b6)
    have AT46 := Lib.hid (AT45.out.here b6)
    have HB6 := Lib.hid (thence HB5.out b6 (Nat.le_refl _))
    obtain ⟨x0, x1, x2⟩ := BX6.out.three
    obtain ⟨z0, z1, z2⟩ := BX66.out.three
    clear it6 b6
    go_wp2_with fail
    refine (CE.out _ _ _ _ _ _ _ _ _ _ _ _ _ AT36.out AT46.out).mono ?_
    rintro e w7 ⟨rfl, b7⟩
    have T5 := text_is w7 _ _ _ _ (IT56.out.here b7).rd
    have T6 := text_is w7 _ _ _ _ (IT6.out.here b7).rd
    have AT37 := Lib.hid (AT36.out.here b7)
    have HB7 := Lib.hid (thence HB6.out b7 (Nat.le_refl _))
    obtain ⟨x0, x1, x2⟩ := (BX6.out.here b7).three
    clear b7
    generalize str m = s at *
    go_wp2_with fail
    refine (CC.out _ _ _ _ _ _ _ AT37.out).mono ?_
    rintro e w8 ⟨rfl, b8⟩
    have HB8 := Lib.hid (thence HB7.out b8 (Nat.le_refl _))
    clear b8
    go_wp2_with fail
    go_ret
    exact ⟨rfl, HB8.out⟩
  · have hF : flushDev D = DK.Dv.nil := by simp [flushDev, h0]
    rw [hF] at CL
    rcases Bool.eq_false_or_eq_true (DK.may D) with hm | hm
    · have hdd : D.dead = true := by
        rcases Bool.eq_false_or_eq_true D.dead with h | h
        · exact h
        · exact absurd (fcode_of hm h) h0
      have hq : DK.fcode D = 40 := by simp [DK.fcode, hm, hdd]
      rw [hq] at CL
      rw [hdd] at CG CL HB BD ⊢
      clear hF hm hdd hq h0 Hr hf hg
      go_enter Try.func7, Try.ntmps7
      go_wp2_with fail
      refine (AL.out _).mono ?_
      rintro e w1 ⟨rfl, b1⟩
      have BD1 := Lib.hid (BD.out.here b1)
      obtain ⟨d0, d1, d2⟩ := BD1.out.three
      have HB1 := Lib.hid (thence HB.out b1 (Nat.le_refl _))
      clear b1
      go_wp2_with fail
      refine (CG.out _ HB1.out).mono ?_
      rintro e w2 ⟨rfl, b2⟩
      have BD2 := Lib.hid (BD1.out.here b2)
      obtain ⟨d0, d1, d2⟩ := BD2.out.three
      have HB2 := Lib.hid (thence HB1.out b2 (Nat.le_refl _))
      clear b2
      go_wp2_with fail
      refine (CL.out _ HB2.out).mono ?_
      intro e w3 hn
      obtain ⟨a3, n3, c3, a3', n3', c3', rfl, -, -, b3⟩ := hn.open
      have dn : (DK.Dv.nil).dead = false := rfl
      rw [dn]
      obtain ⟨d0, d1, d2⟩ := (BD2.out.here b3).three
      have l3 := (BD2.out.here b3).lt
      have HB3 := Lib.hid (thence HB2.out b3 (Nat.le_refl _))
      clear hn b3
      go_wp2_with fail
      go_ret
      exact ⟨rfl, HB3.out.alloc HB3.out.size _⟩
    · have hq : DK.fcode D = 8 := by simp [DK.fcode, hm]
      have hk : DK.kcode D = 8 := kcode_no hm
      have CC : Hid (∀ w1, Below w.heap.size w w1 → Calls Try.prog 15 #[.agg #[.slice a n c, .slice a' n' c', .bool D.dead]] w1 fun e w' => e = .returned (.int .i64 8) ∧ Below w1.heap.size w1 w') := fun w1 h => by
        have := check_any a n c a' n' c' D w1 (Hr.out.here h)
        rw [hk] at this; exact this
      rw [hq] at CL
      clear hF hm hq hk h0 Hr hf hg
      generalize D.dead = dd at *
      go_enter Try.func7, Try.ntmps7
      go_wp2_with fail
      refine (AL.out _).mono ?_
      rintro e w1 ⟨rfl, b1⟩
      have BD1 := Lib.hid (BD.out.here b1)
      obtain ⟨d0, d1, d2⟩ := BD1.out.three
      have HB1 := Lib.hid (thence HB.out b1 (Nat.le_refl _))
      clear b1
      go_wp2_with fail
      refine (CG.out _ HB1.out).mono ?_
      rintro e w2 ⟨rfl, b2⟩
      have BD2 := Lib.hid (BD1.out.here b2)
      obtain ⟨d0, d1, d2⟩ := BD2.out.three
      have HB2 := Lib.hid (thence HB1.out b2 (Nat.le_refl _))
      clear b2
      go_wp2_with fail
      refine (CL.out _ HB2.out).mono ?_
      intro e w3 hn
      obtain ⟨a3, n3, c3, a3', n3', c3', rfl, -, -, b3⟩ := hn.open
      have dn : (DK.Dv.nil).dead = false := rfl
      rw [dn]
      obtain ⟨d0, d1, d2⟩ := (BD2.out.here b3).three
      have l3 := (BD2.out.here b3).lt
      have HB3 := Lib.hid (thence HB2.out b3 (Nat.le_refl _))
      clear hn b3
      go_wp2_with fail
      refine (CC.out _ (HB3.out.alloc HB3.out.size _)).mono ?_
      rintro e w4 ⟨rfl, b4⟩
      have HB4 := Lib.hid (thence (HB3.out.alloc HB3.out.size _) b4 (Nat.le_refl _))
      clear b4
      go_wp2_with fail
      go_ret
      exact ⟨rfl, HB4.out⟩
end Go.Proofs.Ytiphpgfjfmlbjaa.PW
