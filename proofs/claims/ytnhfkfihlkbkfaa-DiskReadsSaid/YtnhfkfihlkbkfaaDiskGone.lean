/-
  Contract of layer 4's 'gone': a device that was killed is dead, and stays so.
-/
import Derived.Test.YtnhfkfihlkbkfaaDiskAlive
namespace Go.Proofs.Ytnhfkfihlkbkfaa.PW
open Go.RowKit
open DK (Dv)
set_option linter.unusedVariables false
set_option maxRecDepth 100000
set_option linter.unusedSimpArgs false

theorem killed_twice (D : Dv) : DK.killed (DK.killed D) = DK.killed D := by simp [DK.killed]
set_option maxRecDepth 100000 in
set_option maxHeartbeats 1000000 in
theorem gone_any (a : Option Addr) (n c : Nat) (a' : Option Addr) (n' c' : Nat) (D : Dv) (w : World) (hr : DevAt w.heap.size w a n c a' n' c' D) (hm : DK.may D = true) :
    Calls Try.prog 43 #[.agg #[.slice a n c, .slice a' n' c', .bool D.dead]] w fun e w' => e = .returned (.bool true) ∧ Below w.heap.size w w' := by
  have hb1 : Below w.heap.size w (w.alloc (.cells #[.slice a n c, .slice a' n' c', .bool D.dead] 37)) := (Below.refl _ _).alloc (Nat.le_refl _) _
  have bD := Bx.new w [.slice a n c, .slice a' n' c', .bool D.dead] 37
  have mK := may_killed hm
  have hlen : (DK.killed D).bs.length = D.bs.length := by simp [DK.killed]
  have hK : DK.has (DK.killed D) 0 = true := by rw [DK.has_iff, hlen]; have := (DK.may_iff.1 hm).1; omega
  have dK : (DK.killed D).dead = true := rfl
  have w1 : DK.wcode (DK.killed D) 0 [] = 40 := by unfold DK.wcode; rw [mK, hK]; rfl
  have w2 : DK.wcode' (DK.killed D) 0 [] = 40 := by unfold DK.wcode'; rw [w1]; rfl
  have f1 : DK.fcode (DK.killed D) = 40 := by unfold DK.fcode; rw [mK]; rfl
  have r1 : DK.rcode (DK.killed D) 0 = 40 := by unfold DK.rcode; rw [mK, hK]; rfl
  have k1 : killDev (DK.killed D) = DK.killed D := by simp [killDev, mK, killed_twice]
  have k0 : killDev D = DK.killed D := by simp [killDev, hm]
  have CK : Hid (∀ w1, Below w.heap.size w w1 → Calls Try.prog 14 #[.agg #[.slice a n c, .slice a' n' c', .bool D.dead]] w1 (NewDev w1 (DK.killed D) 0)) := fun w1 h => by
    have := kill_any a n c a' n' c' D w1 (hr.here h)
    rw [k0, kcode_may hm] at this; exact this
  have CW : Hid (∀ w1 a n c a' n' c', DevAt w1.heap.size w1 a n c a' n' c' (DK.killed D) → Calls Try.prog 36 #[.agg #[.slice a n c, .slice a' n' c', .bool true], .int .i64 0, .slice none 0 0] w1 (NewDev w1 (writeDev (DK.killed D) 0 []) 40)) := fun w1 a n c a' n' c' hd => by
    have := write_any a n c a' n' c' (DK.killed D) 0 none 0 0 [] w1 hd (fit_may mK) (rd_nil _ _) (by simp)
    rw [w2] at this; exact this
  have CU : Hid (∀ w1 a n c a' n' c', DevAt w1.heap.size w1 a n c a' n' c' (DK.killed D) → Calls Try.prog 38 #[.agg #[.slice a n c, .slice a' n' c', .bool true], .int .i64 0, .slice none 0 0] w1 (NewDev w1 (fuaDev (DK.killed D) 0 []) 40)) := fun w1' a n c a' n' c' hd => by
    have := fua_any a n c a' n' c' (DK.killed D) 0 none 0 0 [] w1' hd (fit_may mK) (rd_nil _ _) (by simp)
    rw [w1] at this; exact this
  have CL : Hid (∀ w1 a n c a' n' c', DevAt w1.heap.size w1 a n c a' n' c' (DK.killed D) → Calls Try.prog 39 #[.agg #[.slice a n c, .slice a' n' c', .bool true]] w1 (NewDev w1 (flushDev (DK.killed D)) 40)) := fun w1' a n c a' n' c' hd => by
    have := flush_any a n c a' n' c' (DK.killed D) w1' hd (fit_may mK)
    rw [f1] at this; exact this
  have CR : Hid (∀ w1 a n c a' n' c', DevAt w1.heap.size w1 a n c a' n' c' (DK.killed D) → Calls Try.prog 31 #[.agg #[.slice a n c, .slice a' n' c', .bool true], .int .i64 0] w1 (TheTx w1 (ltext (DK.killed D) 0) 40)) := fun w1' a n c a' n' c' hd => by
    have := lasting_tx a n c a' n' c' (DK.killed D) 0 w1' hd
    rw [r1] at this; exact this
  have CK2 : Hid (∀ w1 a n c a' n' c', DevAt w1.heap.size w1 a n c a' n' c' (DK.killed D) → Calls Try.prog 14 #[.agg #[.slice a n c, .slice a' n' c', .bool true]] w1 (NewDev w1 (DK.killed D) 0)) := fun w1 a n c a' n' c' hd => by
    have := kill_any a n c a' n' c' (DK.killed D) w1 hd
    rw [k1, kcode_may mK] at this; exact this
  have CE : Hid (∀ w1 a n c a' n' c' b m d b' m' d', DevAt w1.heap.size w1 a n c a' n' c' (DK.killed D) → DevAt w1.heap.size w1 b m d b' m' d' (DK.killed D) → Calls Try.prog 70 #[.agg #[.slice a n c, .slice a' n' c', .bool true], .agg #[.slice b m d, .slice b' m' d', .bool true]] w1 fun e w' => e = .returned (.bool true) ∧ Below w1.heap.size w1 w') := fun w1 a n c a' n' c' b m d b' m' d' h1 h2 => by
    have := same_any a n c a' n' c' (DK.killed D) b m d b' m' d' (DK.killed D) w1 h1 h2
    rw [DK.same_self] at this; exact this
  have HN : Hid (n = (DK.killed D).bs.length) := by show _ = _; rw [hlen]; exact hr.long.1
  have sn := hr.small.1
  unfold maxLen at sn
  have HB := Lib.hid hb1
  have BD := Lib.hid bD
  clear hb1 bD hr hm mK hlen hK w1 w2 f1 r1 k1 k0
  generalize ltext (DK.killed D) 0 = y0 at *
  generalize writeDev (DK.killed D) 0 [] = N1 at *
  generalize fuaDev (DK.killed D) 0 [] = N2 at *
  generalize flushDev (DK.killed D) = N3 at *
  generalize DK.killed D = DD at *
  generalize D.dead = dd at *
  go_enter Try.func43, Try.ntmps43
  go_wp2_with fail
  refine (CK.out _ HB.out).mono ?_
  intro e w1 hn
  obtain ⟨a1, n1, c1, a1', n1', c1', rfl, -, at1, b1⟩ := hn.open
  rw [dK]
  have hnn : n1 = n := by rw [at1.long.1]; exact HN.out.symm
  subst hnn
  have BD1 := Lib.hid (BD.out.here b1)
  have HB1 := Lib.hid (thence HB.out b1 (Nat.le_refl _))
  have al : Below w1.heap.size w1 (w1.alloc (.cells [Value.slice a1 n1 c1, .slice a1' n1' c1', .bool true].toArray 37)) := (Below.refl _ _).alloc (Nat.le_refl _) _
  have BX1 : Hid (Bx (w1.alloc (.cells [Value.slice a1 n1 c1, .slice a1' n1' c1', .bool true].toArray 37)) w1.heap.size [.slice a1 n1 c1, .slice a1' n1' c1', .bool true]) := Bx.new _ _ _
  have AT1 := Lib.hid (at1.here al)
  have BD2 := Lib.hid (BD1.out.here al)
  have HB2 := Lib.hid (thence HB1.out al (Nat.le_refl _))
  clear hn at1 b1 al BD1 HB1
  go_wp2_with fail
  generalize w1.alloc (.cells #[.slice a1 n1 c1, .slice a1' n1' c1', .bool true] 37) = W1 at *
  have CH : Hid (Below W1.heap.size W1 W1) := Below.refl _ _
  refine (CW.out _ _ _ _ _ _ _ (AT1.out.here CH.out)).mono ?_
  intro e w2 hn
  obtain ⟨a2, n2, c2, a2', n2', c2', rfl, -, -, bj⟩ := hn.open
  have CH := Lib.hid (thence CH.out bj (Nat.le_refl _))
  obtain ⟨p0, p1, p2⟩ := (BX1.out.here CH.out).three
  have lg := (BX1.out.here CH.out).lt
  have al : Below w2.heap.size w2 (w2.alloc (.cells [Value.slice a2 n2 c2, .slice a2' n2' c2', .bool N1.dead].toArray 37)) := (Below.refl _ _).alloc (Nat.le_refl _) _
  have CH := Lib.hid (thence CH.out al (Nat.le_refl _))
  clear hn bj al
  go_wp2_with fail
  refine (CU.out _ _ _ _ _ _ _ (AT1.out.here CH.out)).mono ?_
  intro e w3 hn
  obtain ⟨a3, n3, c3, a3', n3', c3', rfl, -, -, bj⟩ := hn.open
  have CH := Lib.hid (thence CH.out bj (Nat.le_refl _))
  obtain ⟨p0, p1, p2⟩ := (BX1.out.here CH.out).three
  have lg := (BX1.out.here CH.out).lt
  have al : Below w3.heap.size w3 (w3.alloc (.cells [Value.slice a3 n3 c3, .slice a3' n3' c3', .bool N2.dead].toArray 37)) := (Below.refl _ _).alloc (Nat.le_refl _) _
  have CH := Lib.hid (thence CH.out al (Nat.le_refl _))
  clear hn bj al
  go_wp2_with fail
  refine (CL.out _ _ _ _ _ _ _ (AT1.out.here CH.out)).mono ?_
  intro e w4 hn
  obtain ⟨a4, n4, c4, a4', n4', c4', rfl, -, -, bj⟩ := hn.open
  have CH := Lib.hid (thence CH.out bj (Nat.le_refl _))
  obtain ⟨p0, p1, p2⟩ := (BX1.out.here CH.out).three
  have lg := (BX1.out.here CH.out).lt
  have al : Below w4.heap.size w4 (w4.alloc (.cells [Value.slice a4 n4 c4, .slice a4' n4' c4', .bool N3.dead].toArray 37)) := (Below.refl _ _).alloc (Nat.le_refl _) _
  have CH := Lib.hid (thence CH.out al (Nat.le_refl _))
  clear hn bj al
  go_wp2_with fail
  refine (CR.out _ _ _ _ _ _ _ (AT1.out.here CH.out)).mono ?_
  rintro e w5 ⟨x5, y5, z5, rfl, -, bj⟩
  have CH := Lib.hid (thence CH.out bj (Nat.le_refl _))
  obtain ⟨p0, p1, p2⟩ := (BX1.out.here CH.out).three
  clear bj
  go_wp2_with fail
  refine (CK2.out _ _ _ _ _ _ _ (AT1.out.here CH.out)).mono ?_
  intro e w6 hn
  obtain ⟨a6, n6, c6, a6', n6', c6', rfl, -, at6, bj⟩ := hn.open
  rw [dK]
  have CH := Lib.hid (thence CH.out bj (Nat.le_refl _))
  obtain ⟨p0, p1, p2⟩ := (BX1.out.here CH.out).three
  have lg := (BX1.out.here CH.out).lt
  have al : Below w6.heap.size w6 (w6.alloc (.cells [Value.slice a6 n6 c6, .slice a6' n6' c6', .bool true].toArray 37)) := (Below.refl _ _).alloc (Nat.le_refl _) _
  have AT6 := Lib.hid (at6.here al)
  have CH := Lib.hid (thence CH.out al (Nat.le_refl _))
  clear hn bj al at6
  go_wp2_with fail
  refine (CE.out _ _ _ _ _ _ _ _ _ _ _ _ _ (AT1.out.here CH.out) AT6.out).mono ?_
  rintro e w9 ⟨rfl, b9⟩
  have CH := Lib.hid (thence CH.out b9 (Nat.le_refl _))
  obtain ⟨p0, p1, p2⟩ := (BX1.out.here CH.out).three
  obtain ⟨d0, d1, d2⟩ := (BD2.out.here CH.out).three
  clear b9
  go_wp2_with fail
  go_ret
  exact ⟨rfl, thence HB2.out CH.out (Nat.le_refl _)⟩
end Go.Proofs.Ytnhfkfihlkbkfaa.PW
