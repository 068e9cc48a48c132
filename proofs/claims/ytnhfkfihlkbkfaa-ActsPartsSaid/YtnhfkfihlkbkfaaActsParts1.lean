/-
  ActsParts' walk: some acts and then the others are all; none turn nothing.
-/
import Derived.Test.YtnhfkfihlkbkfaaActsLawMath2
import Derived.Test.YtnhfkfihlkbkfaaActsGreat
import Derived.Test.YtnhfkfihlkbkfaaActsAlive
namespace Go.Proofs.Ytnhfkfihlkbkfaa.PW
open Go.RowKit
open DK (Dv)
set_option linter.unusedVariables false
set_option linter.unusedSimpArgs false
set_option maxRecDepth 100000

theorem Rg.dropA {lo hi len cap : Nat} {w : World} {x : Addr} {L : List Ax} (h : Rg kAx lo hi w (some x) len cap L) {n : Nat} (hn : n ≤ len) : Rg kAx lo hi w (some (x.add (n * 4))) (len - n) (cap - n) (L.drop n) := by
  by_cases e : n = len
  · subst e
    rw [List.drop_of_length_le (by rw [← h.long]; exact Nat.le_refl _), Nat.sub_self]
    exact Rg.none' (Nat.le_trans (Nat.sub_le _ _) h.small) (fun h => by cases h)
  · obtain ⟨b, off, ea, _, _⟩ := h.cells (by intro e0; subst e0; have := h.long; simp at this; omega)
    obtain rfl := Option.some.inj ea
    have := h.drop n hn
    have e1 : (⟨b, off, none⟩ : Addr).add (n * 4) = ⟨b, off + n * 4, none⟩ := by unfold Addr.add; split <;> simp_all
    rw [e1]
    exact this

set_option maxHeartbeats 2000000 in
theorem parts_walk (a0 : Option Addr) (n0 c0 : Nat) (L : List Dn) (a1 : Option Addr) (n1 c1 : Nat) (M : List Ax) (n : Int) (w : World) (r0 : Rg kDn 0 w.heap.size w a0 n0 c0 L) (r1 : Rg kAx 0 w.heap.size w a1 n1 c1 M) :
    Calls Try.prog 6 #[.slice a0 n0 c0, .slice a1 n1 c1, .int .i64 n] w fun e w' => e = .returned (.bool true) ∧ Below w.heap.size w w' := by
  have R0 := Lib.hid r0
  have R1 := Lib.hid r1
  have hs1 := r1.small'
  have hcap1 : n1 ≤ c1 := by have h1 := r1.fits; have h2 := r1.long; omega
  have hcap2 := r1.small
  have Hn1 : Hid ((acs M).length = n1) := by show _ = _; rw [acs_length]; exact r1.long.symm
  unfold maxLen at hcap2
  clear r0 r1
  have CA := Lib.hid (alive5_any w)
  have CG : Hid (∀ w1, Below w.heap.size w w1 → Calls Try.prog 18 #[.slice a0 n0 c0] w1 (SomeB (n0 ≤ 30 ∧ ∀ D ∈ devs L, DK.great D = false) w1)) := fun w1 h => greatDs_any a0 n0 c0 L w1 (R0.out.here h)
  have CL1 : Hid (∀ w1, Below w.heap.size w w1 → Calls Try.prog 19 #[.slice a1 n1 c1] w1 (SomeB (n1 ≤ 1100 ∧ ∀ A ∈ acs M, A.data.length ≤ 100000) w1)) := fun w1 h => longActs_any a1 n1 c1 M w1 (R1.out.here h)
  go_enter Try.func6, Try.ntmps6
  go_wp2_with fail
  refine CA.out.mono ?_
  rintro e w0 ⟨rfl, b0⟩
  have B0 := Lib.hid b0
  clear b0 CA
  go_wp2_with fail
  refine (CG.out _ B0.out).mono ?_
  rintro e w1 ⟨g1, rfl, hg1, b1⟩
  have B1 := Lib.hid (thence B0.out b1 (Nat.le_refl _))
  clear b1 B0
  cases g1 with
  | true =>
    clear hg1
    go_wp2_with fail
    go_ret
    exact ⟨rfl, B1.out⟩
  | false =>
  have HG := Lib.hid (hg1 rfl)
  clear hg1
  go_wp2_with fail
  refine (CL1.out _ B1.out).mono ?_
  rintro e w2 ⟨g2, rfl, hg2, b2⟩
  have B2 := Lib.hid (thence B1.out b2 (Nat.le_refl _))
  clear b2 B1 CG CL1
  cases g2 with
  | true =>
    clear hg2
    go_wp2_with fail
    go_ret
    exact ⟨rfl, B2.out⟩
  | false =>
  clear hg2
  by_cases hn : n < 0
  · go_wp2_with fail
    go_ret
    exact ⟨rfl, B2.out⟩
  by_cases hn2 : (n1 : Int) < n
  · go_wp2_with fail
    go_ret
    exact ⟨rfl, B2.out⟩
  obtain ⟨m, rfl⟩ := Int.eq_ofNat_of_zero_le (show 0 ≤ n by omega)
  have hm : m ≤ n1 := by omega
  clear hn
  have CR : Hid (∀ w1, Below w.heap.size w w1 → Calls Try.prog 10 #[.slice a0 n0 c0, .slice a1 n1 c1, .int .i64 (n1 : Nat)] w1 (DsEnd w1 (AK.ran (devs L) (acs M) (n1 : Nat) AK.did) (AK.ncode (devs L) (acs M) (n1 : Nat) AK.did))) := fun w1 h => run_any a0 n0 c0 L a1 n1 c1 M (n1 : Nat) w1 (R0.out.here h) (R1.out.here h)
  have CR2 : Hid (∀ w1, Below w.heap.size w w1 → Calls Try.prog 10 #[.slice a0 n0 c0, .slice a1 m c1, .int .i64 (m : Nat)] w1 (DsEnd w1 (AK.ran (devs L) ((acs M).take m) (m : Nat) AK.did) (AK.ncode (devs L) ((acs M).take m) (m : Nat) AK.did))) := fun w1 h => by
    have := run_any a0 n0 c0 L a1 m c1 (M.take m) (m : Nat) w1 (R0.out.here h) ((R1.out.here h).take m hm)
    rw [acs_take] at this
    exact this
  have CR3 : Hid (∀ w1, Below w.heap.size w w1 → Calls Try.prog 10 #[.slice a0 n0 c0, .slice a1 n1 c1, .int .i64 0] w1 (DsEnd w1 (AK.ran (devs L) (acs M) 0 AK.did) (AK.ncode (devs L) (acs M) 0 AK.did))) := fun w1 h => run_any a0 n0 c0 L a1 n1 c1 M 0 w1 (R0.out.here h) (R1.out.here h)
  have i1 : (m : Int) ≤ (n1 : Int) := by omega
  have i2 : (m : Int) ≤ (c1 : Int) := by omega
  by_cases h0 : AK.ncode (devs L) (acs M) (n1 : Nat) AK.did = 0
  case neg =>
    have HR := Lib.hid (ran_no h0)
    rw [HR.out] at CR
    have e0 : ((AK.ncode (devs L) (acs M) (n1 : Nat) AK.did : Int) == 0) = false := by rw [beq_eq_false_iff_ne]; omega
    have e1 : ((AK.ncode (devs L) (acs M) (n1 : Nat) AK.did : Int) != 0) = true := by rw [bne, e0]; rfl
    clear h0
    generalize AK.ncode (devs L) (acs M) (n1 : Nat) AK.did = q at *
    generalize AK.ncode (devs L) ((acs M).take m) (m : Nat) AK.did = q2 at *
    generalize AK.ncode (devs L) (acs M) 0 AK.did = q3 at *
    go_wp2_with fail
    refine (CR.out _ B2.out).mono ?_
    rintro e w3 ⟨v3, rfl, ⟨a3, n3, c3, P, rfl, r3, d3, -⟩, b3⟩
    have B3 := Lib.hid (thence B2.out b3 (Nat.le_refl _))
    obtain rfl : n3 = 0 := by
      have h1 := r3.long
      have h2 := devs_length P
      rw [d3] at h2
      simp at h2
      omega
    clear b3 r3 d3
    go_wp2_with fail
    refine (CR2.out _ B3.out).mono ?_
    rintro e w4 ⟨v4, rfl, ⟨a4, n4, c4, P4, rfl, r4, d4, -⟩, b4⟩
    have B4 := Lib.hid (thence B3.out b4 (Nat.le_refl _))
    clear b4 r4 d4
    go_wp2_with fail
    refine (CR3.out _ B4.out).mono ?_
    rintro e w5 ⟨v5, rfl, ⟨a5, n5, c5, P5, rfl, r5, d5, -⟩, b5⟩
    have B5 := Lib.hid (thence B4.out b5 (Nat.le_refl _))
    clear b5 r5 d5
    go_wp2_with fail
    go_ret
    exact ⟨rfl, B5.out⟩
  have PM : Hid (AK.mays (devs L) = true ∧ AK.ncode (devs L) ((acs M).take m) (m : Int) AK.did = 0 ∧ AK.ncode (devs L) (acs M) (m : Int) AK.did = 0 ∧ AK.ran (devs L) (acs M) (m : Int) AK.did = AK.ran (devs L) ((acs M).take m) (m : Int) AK.did ∧
    AK.ncode (devs L) (acs M) 0 AK.did = 0 ∧ AK.ran (devs L) (acs M) 0 AK.did = devs L ∧
    AK.ncode (AK.ran (devs L) ((acs M).take m) (m : Int) AK.did) ((acs M).drop m) ((n1 - m : Nat) : Int) AK.did = 0 ∧ AK.ran (AK.ran (devs L) ((acs M).take m) (m : Int) AK.did) ((acs M).drop m) ((n1 - m : Nat) : Int) AK.did = AK.ran (devs L) (acs M) (n1 : Nat) AK.did) := by
    have := parts_math (Ds := devs L) (As := acs M) (m := m) (by rw [Hn1.out]; exact hm) (by rw [Hn1.out]; exact h0)
    rw [Hn1.out] at this
    exact this
  have FA := Lib.hid (ran_fit (devs L) (acs M) (n1 : Nat)).1
  have FM := Lib.hid (ran_fit (devs L) ((acs M).take m) (m : Int)).1
  have FL := Lib.hid (mays_fit PM.out.1)
  have CR5 : Hid (∀ w1, Below w.heap.size w w1 → Calls Try.prog 10 #[.slice a0 n0 c0, .slice a1 n1 c1, .int .i64 (m : Nat)] w1 (DsEnd w1 (AK.ran (devs L) ((acs M).take m) (m : Int) AK.did) 0)) := fun w1 h => by
    have := run_any a0 n0 c0 L a1 n1 c1 M (m : Nat) w1 (R0.out.here h) (R1.out.here h)
    rw [PM.out.2.2.1, PM.out.2.2.2.1] at this
    exact this
  have CR4 : Hid (∀ w1 xa xn xc N ya yc, Rg kDn 0 w1.heap.size w1 xa xn xc N → devs N = AK.ran (devs L) ((acs M).take m) (m : Int) AK.did → Rg kAx 0 w1.heap.size w1 ya (n1 - m) yc (M.drop m) → Calls Try.prog 10 #[.slice xa xn xc, .slice ya (n1 - m) yc, .int .i64 ((n1 - m : Nat) : Int)] w1 (DsEnd w1 (AK.ran (devs L) (acs M) (n1 : Nat) AK.did) 0)) := fun w1 xa xn xc N ya yc h1 h2 h3 => by
    have := run_any xa xn xc N ya (n1 - m) yc (M.drop m) ((n1 - m : Nat) : Int) w1 h1 h3
    rw [h2, acs_drop, PM.out.2.2.2.2.2.2.1, PM.out.2.2.2.2.2.2.2] at this
    exact this
  rw [h0] at CR
  rw [PM.out.2.1] at CR2
  rw [PM.out.2.2.2.2.1, PM.out.2.2.2.2.2.1] at CR3
  clear PM h0
  generalize AK.ran (devs L) ((acs M).take m) (m : Int) AK.did = XM at *
  generalize AK.ran (devs L) (acs M) (n1 : Nat) AK.did = XA at *
  go_wp2_with fail
  refine (CR.out _ B2.out).mono ?_
  rintro e w3 ⟨v3, rfl, ⟨a3, n3, c3, P3, rfl, r3, d3, -⟩, b3⟩
  have B3 := Lib.hid (thence B2.out b3 (Nat.le_refl _))
  have R3 := Lib.hid (r3.mono (Nat.zero_le _) (Nat.le_refl _))
  have D3 := Lib.hid d3
  clear b3 r3 d3 B2
  go_wp2_with fail
  refine (CR2.out _ B3.out).mono ?_
  rintro e w4 ⟨v4, rfl, ⟨a4, n4, c4, P4, rfl, r4, d4, -⟩, b4⟩
  have B4 := Lib.hid (thence B3.out b4 (Nat.le_refl _))
  have R3 := Lib.hid (R3.out.here b4)
  have R4 := Lib.hid (r4.mono (Nat.zero_le _) (Nat.le_refl _))
  have D4 := Lib.hid d4
  clear b4 r4 d4 B3
  go_wp2_with fail
  refine (CR3.out _ B4.out).mono ?_
  rintro e w5 ⟨v5, rfl, ⟨a5, n5, c5, P5, rfl, r5, d5, -⟩, b5⟩
  have B5 := Lib.hid (thence B4.out b5 (Nat.le_refl _))
  have R3 := Lib.hid (R3.out.here b5)
  have R4 := Lib.hid (R4.out.here b5)
  have R5 := Lib.hid (r5.mono (Nat.zero_le _) (Nat.le_refl _))
  have D5 := Lib.hid d5
  clear b5 r5 d5 B4
  have esub : ((n1 - m : Nat) : Int) = (n1 : Int) - (m : Int) := by omega
  rw [esub] at CR4
  by_cases hc : c1 = m
  · subst hc
    obtain rfl : n1 = c1 := by omega
    have RX : Hid (Rg kAx 0 w5.heap.size w5 a1 (n1 - n1) 0 (M.drop n1)) := by
      show Rg _ _ _ _ _ _ _ _
      rw [List.drop_of_length_le (by have := Hn1.out; rw [acs_length] at this; omega), Nat.sub_self]
      exact Rg.none' (Nat.zero_le _) (fun _ => rfl)
    have CX4 := CR4.out w5 a4 n4 c4 P4 a1 0 R4.out D4.out RX.out
    rw [show n1 - n1 = 0 by omega, show (n1 : Int) - (n1 : Int) = 0 by omega] at CX4
    clear CR4 RX
    have CX4 := Lib.hid CX4
    go_wp2_with fail
    refine CX4.out.mono ?_
    rintro e w6 ⟨v6, rfl, ⟨a6, n6, c6, P6, rfl, r6, d6, -⟩, b6⟩
    have B6 := Lib.hid (thence B5.out b6 (Nat.le_refl _))
    have R3 := Lib.hid (R3.out.here b6)
    have R4 := Lib.hid (R4.out.here b6)
    have R5 := Lib.hid (R5.out.here b6)
    have R6 := Lib.hid (r6.mono (Nat.zero_le _) (Nat.le_refl _))
    have D6 := Lib.hid d6
    clear b6 r6 d6 B5
    go_wp2_with fail
    refine (CR5.out _ B6.out).mono ?_
    rintro e w7 ⟨v7, rfl, ⟨a7, n7, c7, P7, rfl, r7, d7, -⟩, b7⟩
    have B7 := Lib.hid (thence B6.out b7 (Nat.le_refl _))
    have R3 := Lib.hid (R3.out.here b7)
    have R4 := Lib.hid (R4.out.here b7)
    have R5 := Lib.hid (R5.out.here b7)
    have R6 := Lib.hid (R6.out.here b7)
    have R7 := Lib.hid (r7.mono (Nat.zero_le _) (Nat.le_refl _))
    have D7 := Lib.hid d7
    clear b7 r7 d7 B6
    have CS : Hid (∀ w1 xa xn xc X ya yn yc Y Z, Rg kDn 0 w1.heap.size w1 xa xn xc X → Rg kDn 0 w1.heap.size w1 ya yn yc Y → devs X = Z → devs Y = Z → (∀ D ∈ Z, Fit D) → Calls Try.prog 16 #[.slice xa xn xc, .slice ya yn yc] w1 fun e w' => e = .returned (.bool true) ∧ Below w1.heap.size w1 w') := fun w1 xa xn xc X ya yn yc Y Z h1 h2 h3 h4 h5 => by
      have := refSameDs_any xa xn xc X ya yn yc Y w1 h1 h2 (by rw [h3]; exact h5) (by rw [h4]; exact h5)
      rw [h3, h4, sameD_refl] at this
      exact this
    go_wp2_with fail
    refine (CS.out _ _ _ _ _ _ _ _ _ XA R3.out R6.out D3.out D6.out FA.out).mono ?_
    rintro e w8 ⟨rfl, b8⟩
    have B8 := Lib.hid (thence B7.out b8 (Nat.le_refl _))
    have R4 := Lib.hid (R4.out.here b8)
    have R5 := Lib.hid (R5.out.here b8)
    have R7 := Lib.hid (R7.out.here b8)
    clear b8 R3 R6 B7
    go_wp2_with fail
    refine (CS.out _ _ _ _ _ _ _ _ _ XM R4.out R7.out D4.out D7.out FM.out).mono ?_
    rintro e w9 ⟨rfl, b9⟩
    have B9 := Lib.hid (thence B8.out b9 (Nat.le_refl _))
    have R5 := Lib.hid (R5.out.here b9)
    clear b9 R4 R7 B8
    go_wp2_with fail
    refine (CS.out _ _ _ _ _ _ _ _ _ (devs L) R5.out (R0.out.here B9.out) D5.out rfl FL.out).mono ?_
    rintro e w10 ⟨rfl, b10⟩
    have B10 := Lib.hid (thence B9.out b10 (Nat.le_refl _))
    clear b10 R5 B9
    go_wp2_with fail
    go_ret
    exact ⟨rfl, B10.out⟩
  · obtain ⟨x, rfl⟩ : ∃ x, a1 = some x := by
      cases a1 with
      | none => have h1 := R1.out.nil rfl; omega
      | some x => exact ⟨x, rfl⟩
    have i3 : ¬ (c1 : Int) = (m : Int) := by omega
    have i4 : m < c1 := by omega
    have RX := Lib.hid ((R1.out.here B5.out).dropA hm)
    go_wp2_with fail
    refine (CR4.out _ _ _ _ _ _ _ R4.out D4.out RX.out).mono ?_
    rintro e w6 ⟨v6, rfl, ⟨a6, n6, c6, P6, rfl, r6, d6, -⟩, b6⟩
    have B6 := Lib.hid (thence B5.out b6 (Nat.le_refl _))
    have R3 := Lib.hid (R3.out.here b6)
    have R4 := Lib.hid (R4.out.here b6)
    have R5 := Lib.hid (R5.out.here b6)
    have R6 := Lib.hid (r6.mono (Nat.zero_le _) (Nat.le_refl _))
    have D6 := Lib.hid d6
    clear b6 r6 d6 B5 RX
    go_wp2_with fail
    refine (CR5.out _ B6.out).mono ?_
    rintro e w7 ⟨v7, rfl, ⟨a7, n7, c7, P7, rfl, r7, d7, -⟩, b7⟩
    have B7 := Lib.hid (thence B6.out b7 (Nat.le_refl _))
    have R3 := Lib.hid (R3.out.here b7)
    have R4 := Lib.hid (R4.out.here b7)
    have R5 := Lib.hid (R5.out.here b7)
    have R6 := Lib.hid (R6.out.here b7)
    have R7 := Lib.hid (r7.mono (Nat.zero_le _) (Nat.le_refl _))
    have D7 := Lib.hid d7
    clear b7 r7 d7 B6
    have CS : Hid (∀ w1 xa xn xc X ya yn yc Y Z, Rg kDn 0 w1.heap.size w1 xa xn xc X → Rg kDn 0 w1.heap.size w1 ya yn yc Y → devs X = Z → devs Y = Z → (∀ D ∈ Z, Fit D) → Calls Try.prog 16 #[.slice xa xn xc, .slice ya yn yc] w1 fun e w' => e = .returned (.bool true) ∧ Below w1.heap.size w1 w') := fun w1 xa xn xc X ya yn yc Y Z h1 h2 h3 h4 h5 => by
      have := refSameDs_any xa xn xc X ya yn yc Y w1 h1 h2 (by rw [h3]; exact h5) (by rw [h4]; exact h5)
      rw [h3, h4, sameD_refl] at this
      exact this
    go_wp2_with fail
    refine (CS.out _ _ _ _ _ _ _ _ _ XA R3.out R6.out D3.out D6.out FA.out).mono ?_
    rintro e w8 ⟨rfl, b8⟩
    have B8 := Lib.hid (thence B7.out b8 (Nat.le_refl _))
    have R4 := Lib.hid (R4.out.here b8)
    have R5 := Lib.hid (R5.out.here b8)
    have R7 := Lib.hid (R7.out.here b8)
    clear b8 R3 R6 B7
    go_wp2_with fail
    refine (CS.out _ _ _ _ _ _ _ _ _ XM R4.out R7.out D4.out D7.out FM.out).mono ?_
    rintro e w9 ⟨rfl, b9⟩
    have B9 := Lib.hid (thence B8.out b9 (Nat.le_refl _))
    have R5 := Lib.hid (R5.out.here b9)
    clear b9 R4 R7 B8
    go_wp2_with fail
    refine (CS.out _ _ _ _ _ _ _ _ _ (devs L) R5.out (R0.out.here B9.out) D5.out rfl FL.out).mono ?_
    rintro e w10 ⟨rfl, b10⟩
    have B10 := Lib.hid (thence B9.out b10 (Nat.le_refl _))
    clear b10 R5 B9
    go_wp2_with fail
    go_ret
    exact ⟨rfl, B10.out⟩
end Go.Proofs.Ytnhfkfihlkbkfaa.PW
