/-
  ActsRuns' walk: checking, doing and comparing acts are the document's; what is answered is new memory.
-/
import Derived.Test.YtnhfkfihlkbkfaaActsLawMath2
import Derived.Test.YtnhfkfihlkbkfaaActsGreat
import Derived.Test.YtnhfkfihlkbkfaaActsRefTwin
import Derived.Test.YtnhfkfihlkbkfaaActsRefRuns
import Derived.Test.YtnhfkfihlkbkfaaActsRefSame
import Derived.Test.YtnhfkfihlkbkfaaActsSame
import Derived.Test.YtnhfkfihlkbkfaaActsChecks
import Derived.Test.YtnhfkfihlkbkfaaActsSpoil
namespace Go.Proofs.Ytnhfkfihlkbkfaa.PW
open Go.RowKit
open DK (Dv)
set_option linter.unusedVariables false
set_option linter.unusedSimpArgs false
set_option maxRecDepth 100000

theorem sameA_refl (As : List AK.Ac) : AK.sameA As As = true := by simp [AK.sameA]

set_option maxHeartbeats 2000000 in
theorem runs_walk (a0 : Option Addr) (n0 c0 : Nat) (L : List Dn) (a1 : Option Addr) (n1 c1 : Nat) (M : List Ax) (a2 : Option Addr) (n2 c2 : Nat) (O : List Ax) (n : Int) (w : World) (r0 : Rg kDn 0 w.heap.size w a0 n0 c0 L) (r1 : Rg kAx 0 w.heap.size w a1 n1 c1 M) (r2 : Rg kAx 0 w.heap.size w a2 n2 c2 O) :
    Calls Try.prog 4 #[.slice a0 n0 c0, .slice a1 n1 c1, .slice a2 n2 c2, .int .i64 n] w fun e w' => e = .returned (.bool true) ∧ Below w.heap.size w w' := by
  have R0 := Lib.hid r0
  have R1 := Lib.hid r1
  have R2 := Lib.hid r2
  clear r0 r1 r2
  have CG : Hid (Calls Try.prog 18 #[.slice a0 n0 c0] w (SomeB (n0 ≤ 30 ∧ ∀ D ∈ devs L, DK.great D = false) w)) := greatDs_any a0 n0 c0 L w R0.out
  have CL1 : Hid (∀ w1, Below w.heap.size w w1 → Calls Try.prog 19 #[.slice a1 n1 c1] w1 (SomeB (n1 ≤ 1100 ∧ ∀ A ∈ acs M, A.data.length ≤ 100000) w1)) := fun w1 h => longActs_any a1 n1 c1 M w1 (R1.out.here h)
  have CL2 : Hid (∀ w1, Below w.heap.size w w1 → Calls Try.prog 19 #[.slice a2 n2 c2] w1 (SomeB (n2 ≤ 1100 ∧ ∀ A ∈ acs O, A.data.length ≤ 100000) w1)) := fun w1 h => longActs_any a2 n2 c2 O w1 (R2.out.here h)
  go_enter Try.func4, Try.ntmps4
  go_wp2_with fail
  refine CG.out.mono ?_
  rintro e w1 ⟨g1, rfl, hg1, b1⟩
  have B1 := Lib.hid b1
  clear b1
  cases g1 with
  | true =>
    clear hg1
    go_wp2_with fail
    go_ret
    exact ⟨rfl, B1.out⟩
  | false =>
  have HG := Lib.hid (hg1 rfl)
  clear hg1
  go_wp2_with fail
  refine (CL1.out _ B1.out).mono ?_
  rintro e w2 ⟨g2, rfl, hg2, b2⟩
  have B2 := Lib.hid (thence B1.out b2 (Nat.le_refl _))
  clear b2
  cases g2 with
  | true =>
    clear hg2
    go_wp2_with fail
    go_ret
    exact ⟨rfl, B2.out⟩
  | false =>
  have HL1 := Lib.hid (hg2 rfl)
  clear hg2
  go_wp2_with fail
  refine (CL2.out _ B2.out).mono ?_
  rintro e w3 ⟨g3, rfl, hg3, b3⟩
  have B3 := Lib.hid (thence B2.out b3 (Nat.le_refl _))
  clear b3 B1 B2 CG CL1 CL2
  cases g3 with
  | true =>
    clear hg3
    go_wp2_with fail
    go_ret
    exact ⟨rfl, B3.out⟩
  | false =>
  clear hg3
  have FL : Hid (∀ D ∈ devs L, Fit D) := fun D hD => fit_of (HG.out.2 D hD)
  have CT : Hid (Calls Try.prog 20 #[.slice a0 n0 c0] w3 (NewDv w3 (devs L))) := refTwinDs_any a0 n0 c0 L w3 (R0.out.here B3.out) FL.out (by have := HG.out.1; omega)
  go_wp2_with fail
  refine CT.out.mono ?_
  rintro e w4 ⟨a4, n4, c4, N, rfl, r4, d4, b4⟩
  have B4 := Lib.hid (thence B3.out b4 (Nat.le_refl _))
  have R4 := Lib.hid r4
  have D4 := Lib.hid d4
  clear b4 r4 d4 CT B3
  have CA : Hid (Calls Try.prog 21 #[.slice a1 n1 c1] w4 (NewAs w4 (acs M))) := refTwinAs_any a1 n1 c1 M w4 (R1.out.here B4.out) HL1.out.2 (by have := HL1.out.1; omega)
  go_wp2_with fail
  refine CA.out.mono ?_
  rintro e w5 ⟨a5, n5, c5, K, rfl, r5, d5, b5⟩
  have B5 := Lib.hid (thence B4.out b5 (Nat.le_refl _))
  have R4 := Lib.hid (R4.out.here b5)
  have R5 := Lib.hid r5
  have D5 := Lib.hid d5
  clear b5 r5 d5 CA B4
  have CR : Hid (Calls Try.prog 10 #[.slice a4 n4 c4, .slice a5 n5 c5, .int .i64 n] w5 (DsEnd w5 (AK.ran (devs L) (acs M) n AK.did) (AK.ncode (devs L) (acs M) n AK.did))) := by
    have := run_any a4 n4 c4 N a5 n5 c5 K n w5 R4.out R5.out
    rw [D4.out, D5.out] at this
    exact this
  go_wp2_with fail
  refine CR.out.mono ?_
  rintro e w6 ⟨v6, rfl, ⟨a6, n6, c6, P, rfl, r6, d6, o6⟩, b6⟩
  have BB6 := Lib.hid b6
  have Z5 := Lib.hid (Nat.le_refl w5.heap.size)
  have R6 := Lib.hid (r6.mono (Nat.zero_le _) (Nat.le_refl _))
  have D6 := Lib.hid d6
  have O6 := Lib.hid o6
  clear b6 r6 d6 o6 CR
  have CF : Hid (∀ w7, Below w.heap.size w w7 → Calls Try.prog 22 #[.slice a0 n0 c0, .slice a1 n1 c1, .int .i64 n] w7 (RefDs w7 (AK.ran (devs L) (acs M) n AK.rdid) (AK.ncode (devs L) (acs M) n AK.did))) := fun w7 h => by
    have := refRun_any a0 n0 c0 L a1 n1 c1 M n w7 (R0.out.here h) (R1.out.here h)
    rw [← (ran_norm (devs L) (acs M) n).1] at this
    exact this
  go_wp2_with fail
  refine (CF.out _ (thence B5.out BB6.out (Nat.le_refl _))).mono ?_
  rintro e w7 ⟨a7, n7, c7, Q, rfl, r7, d7, b7⟩
  have BB7 := Lib.hid (thence BB6.out b7 (Nat.le_refl _))
  have R6 := Lib.hid (R6.out.here b7)
  have O6 : Hid (∀ x ∈ P, OwnI w5.heap.size w7.heap.size w7 x) := fun x hx => (O6.out x hx).here b7
  have R7 := Lib.hid r7
  have D7 := Lib.hid d7
  clear b7 r7 d7 CF BB6
  have FR := Lib.hid (ran_fit (devs L) (acs M) n)
  have SN := Lib.hid (ran_norm (devs L) (acs M) n).2
  generalize AK.ran (devs L) (acs M) n AK.did = X1 at *
  generalize AK.ran (devs L) (acs M) n AK.rdid = X2 at *
  generalize AK.ncode (devs L) (acs M) n AK.did = q at *
  have CS : Hid (Calls Try.prog 16 #[.slice a6 n6 c6, .slice a7 n7 c7] w7 fun e w' => e = .returned (.bool true) ∧ Below w7.heap.size w7 w') := by
    have := refSameDs_any a6 n6 c6 P a7 n7 c7 Q w7 R6.out R7.out (by rw [D6.out]; exact FR.out.1) (by rw [D7.out]; exact FR.out.2)
    rw [D6.out, D7.out, SN.out] at this
    exact this
  clear FR SN R7 D7 D6
  go_wp2_with fail
  refine CS.out.mono ?_
  rintro e w8 ⟨rfl, b8⟩
  have BB8 := Lib.hid (thence BB7.out b8 (Nat.le_refl _))
  have R6 := Lib.hid (R6.out.here b8)
  have O6 : Hid (∀ x ∈ P, OwnI w5.heap.size w8.heap.size w8 x) := fun x hx => (O6.out x hx).here b8
  clear b8 CS BB7
  have CC1 : Hid (Calls Try.prog 17 #[.slice a5 n5 c5, .slice a4 n4 c4] w8 fun e w' => e = .returned (.int .i64 (AK.acode (devs L) (acs M) : Nat)) ∧ Below w8.heap.size w8 w') := by
    have := actsCheck_any a5 n5 c5 K a4 n4 c4 N w8 (R5.out.here BB8.out) (R4.out.here BB8.out)
    rw [D4.out, D5.out] at this
    exact this
  have CC2 : Hid (∀ w9, Below w.heap.size w w9 → Calls Try.prog 23 #[.slice a1 n1 c1, .slice a0 n0 c0] w9 fun e w' => e = .returned (.int .i64 (AK.acode (devs L) (acs M) : Nat)) ∧ Below w9.heap.size w9 w') := fun w9 h => refActsCheck_any a1 n1 c1 M a0 n0 c0 L w9 (R1.out.here h) (R0.out.here h)
  generalize AK.acode (devs L) (acs M) = cc at *
  go_wp2_with fail
  refine CC1.out.mono ?_
  rintro e w9 ⟨rfl, b9⟩
  have BB9 := Lib.hid (thence BB8.out b9 (Nat.le_refl _))
  have R6 := Lib.hid (R6.out.here b9)
  have O6 : Hid (∀ x ∈ P, OwnI w5.heap.size w9.heap.size w9 x) := fun x hx => (O6.out x hx).here b9
  clear b9 CC1 BB8
  go_wp2_with fail
  refine (CC2.out _ (thence B5.out BB9.out (Nat.le_refl _))).mono ?_
  rintro e w10 ⟨rfl, b10⟩
  have BB10 := Lib.hid (thence BB9.out b10 (Nat.le_refl _))
  have R6 := Lib.hid (R6.out.here b10)
  have O6 : Hid (∀ x ∈ P, OwnI w5.heap.size w10.heap.size w10 x) := fun x hx => (O6.out x hx).here b10
  clear b10 CC2 BB9
  have CE1 : Hid (∀ w9, Below w.heap.size w w9 → Calls Try.prog 24 #[.slice a1 n1 c1, .slice a2 n2 c2] w9 fun e w' => e = .returned (.bool (AK.sameA (acs M) (acs O))) ∧ Below w9.heap.size w9 w') := fun w9 h => sameActs_any a1 n1 c1 M a2 n2 c2 O w9 (R1.out.here h) (R2.out.here h)
  have CE2 : Hid (∀ w9, Below w.heap.size w w9 → Calls Try.prog 25 #[.slice a1 n1 c1, .slice a2 n2 c2] w9 fun e w' => e = .returned (.bool (AK.sameA (acs M) (acs O))) ∧ Below w9.heap.size w9 w') := fun w9 h => refSameActs_any a1 n1 c1 M a2 n2 c2 O w9 (R1.out.here h) (R2.out.here h)
  generalize AK.sameA (acs M) (acs O) = sb at *
  go_wp2_with fail
  refine (CE1.out _ (thence B5.out BB10.out (Nat.le_refl _))).mono ?_
  rintro e w11 ⟨rfl, b11⟩
  have BB11 := Lib.hid (thence BB10.out b11 (Nat.le_refl _))
  have R6 := Lib.hid (R6.out.here b11)
  have O6 : Hid (∀ x ∈ P, OwnI w5.heap.size w11.heap.size w11 x) := fun x hx => (O6.out x hx).here b11
  clear b11 CE1 BB10
  go_wp2_with fail
  refine (CE2.out _ (thence B5.out BB11.out (Nat.le_refl _))).mono ?_
  rintro e w12 ⟨rfl, b12⟩
  have BB12 := Lib.hid (thence BB11.out b12 (Nat.le_refl _))
  have R6 := Lib.hid (R6.out.here b12)
  have O6 : Hid (∀ x ∈ P, OwnI w5.heap.size w12.heap.size w12 x) := fun x hx => (O6.out x hx).here b12
  clear b12 CE2 BB11
  have CE3 : Hid (Calls Try.prog 24 #[.slice a5 n5 c5, .slice a1 n1 c1] w12 fun e w' => e = .returned (.bool true) ∧ Below w12.heap.size w12 w') := by
    have := sameActs_any a5 n5 c5 K a1 n1 c1 M w12 (R5.out.here BB12.out) (R1.out.here (thence B5.out BB12.out (Nat.le_refl _)))
    rw [D5.out, sameA_refl] at this
    exact this
  go_wp2_with fail
  refine CE3.out.mono ?_
  rintro e w13 ⟨rfl, b13⟩
  have BB13 := Lib.hid (thence BB12.out b13 (Nat.le_refl _))
  have R6 := Lib.hid (R6.out.here b13)
  have O6 : Hid (∀ x ∈ P, OwnI w5.heap.size w13.heap.size w13 x) := fun x hx => (O6.out x hx).here b13
  clear b13 CE3 BB12
  have CP := Lib.hid (spoilDs_any w5.heap.size a6 n6 c6 P w13 R6.out O6.out)
  go_wp2_with fail
  refine CP.out.mono ?_
  rintro e w14 ⟨⟨v14, rfl⟩, b14⟩
  have BB14 := Lib.hid (BB13.out.trans b14)
  clear b14 CP R6 O6 BB13
  have CS2 : Hid (Calls Try.prog 16 #[.slice a4 n4 c4, .slice a0 n0 c0] w14 fun e w' => e = .returned (.bool true) ∧ Below w14.heap.size w14 w') := by
    have := refSameDs_any a4 n4 c4 N a0 n0 c0 L w14 (R4.out.here BB14.out) (R0.out.here (thence B5.out BB14.out (Nat.le_refl _))) (by rw [D4.out]; exact FL.out) FL.out
    rw [D4.out, sameD_refl] at this
    exact this
  go_wp2_with fail
  refine CS2.out.mono ?_
  rintro e w15 ⟨rfl, b15⟩
  have BB15 := Lib.hid (thence BB14.out b15 (Nat.le_refl _))
  clear b15 CS2 BB14
  have CE4 : Hid (Calls Try.prog 25 #[.slice a5 n5 c5, .slice a1 n1 c1] w15 fun e w' => e = .returned (.bool true) ∧ Below w15.heap.size w15 w') := by
    have := refSameActs_any a5 n5 c5 K a1 n1 c1 M w15 (R5.out.here BB15.out) (R1.out.here (thence B5.out BB15.out (Nat.le_refl _)))
    rw [D5.out, sameA_refl] at this
    exact this
  go_wp2_with fail
  refine CE4.out.mono ?_
  rintro e w16 ⟨rfl, b16⟩
  have BB16 := Lib.hid (thence BB15.out b16 (Nat.le_refl _))
  clear b16 CE4 BB15
  go_wp2_with fail
  go_ret
  exact ⟨rfl, thence B5.out BB16.out (Nat.le_refl _)⟩
end Go.Proofs.Ytnhfkfihlkbkfaa.PW
