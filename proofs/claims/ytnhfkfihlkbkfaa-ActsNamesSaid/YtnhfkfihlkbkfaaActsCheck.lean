/-
  Contracts of layer 5's checks, the program's and the document's own.
-/
import Derived.Test.YtnhfkfihlkbkfaaActsMath
import Derived.Test.YtnhfkfihlkbkfaaKinds
import Derived.Test.YtnhfkfihlkbkfaaDiskCodes
import Derived.BigQuiet
import Derived.Deep.QuietTactic
namespace Go.Proofs.Ytnhfkfihlkbkfaa.PW
open Go.RowKit
open DK (Dv)
set_option linter.unusedVariables false
set_option linter.unusedSimpArgs false
set_option maxRecDepth 100000

theorem dcode_no {Ds : List Dv} (h : AK.mays Ds = false) : AK.dcode Ds = 8 := by simp [AK.dcode, h]
theorem dcode_yes {Ds : List Dv} (h : AK.mays Ds = true) : AK.dcode Ds = 0 := by simp [AK.dcode, h]
theorem mays_bad {Ds : List Dv} {k : Nat} (hk : k < Ds.length) (h : DK.may (Ds.getD k Dv.nil) = false) : AK.mays Ds = false := by
  rw [← Bool.not_eq_true, AK.mays_iff]
  intro hh
  have := hh.2.2 _ (AK.mem_get (d := Dv.nil) hk)
  rw [h] at this; cases this
theorem mays_out {Ds : List Dv} (h : Ds.length < 1 ∨ 17 < Ds.length) : AK.mays Ds = false := by
  rw [← Bool.not_eq_true, AK.mays_iff]
  intro hh; omega
theorem mays_all {Ds : List Dv} (h1 : 1 ≤ Ds.length) (h2 : Ds.length ≤ 17) (h : ∀ k, k < Ds.length → DK.may (Ds.getD k Dv.nil) = true) : AK.mays Ds = true :=
  AK.mays_iff.2 ⟨h1, h2, AK.all_getD (d := Dv.nil) h⟩

/-- Devices whose first k may be. -/
def Fine (L : List Dn) (k : Nat) : Prop := ∀ j, j < k → DK.may ((devs L).getD j Dv.nil) = true
theorem Fine.next {L : List Dn} {k : Nat} (h : Fine L k) (hk : DK.may ((devs L).getD k Dv.nil) = true) : Fine L (k + 1) := fun j hj => by
  by_cases e : j = k
  · subst e; exact hk
  · exact h j (by omega)

set_option maxHeartbeats 1000000 in
theorem checkDisks_any (a : Option Addr) (len cap : Nat) (L : List Dn) (w : World) (hr : Rg kDn 0 w.heap.size w a len cap L) :
    Calls Try.prog 48 #[.slice a len cap] w fun e w' => e = .returned (.int .i64 (AK.dcode (devs L) : Nat)) ∧ Below w.heap.size w w' := by
  have hlen := hr.long
  have hs := hr.small'
  have Hlen := Lib.hid hlen
  have Hr := Lib.hid hr
  clear hr
  by_cases h1 : len < 1
  · rw [dcode_no (mays_out (by rw [devs_length]; omega))]
    obtain rfl : len = 0 := by omega
    clear Hlen hlen h1
    go_enter Try.func48, Try.ntmps48
    go_wp2
    go_ret
    exact ⟨rfl, Below.refl _ _⟩
  by_cases h2 : 17 < len
  · rw [dcode_no (mays_out (by rw [devs_length]; omega))]
    have i1 : ¬ (len : Int) < 1 := by omega
    have i2 : (17 : Int) < (len : Int) := by omega
    clear Hlen hlen h1 h2
    go_enter Try.func48, Try.ntmps48
    go_wp2
    go_ret
    exact ⟨rfl, Below.refl _ _⟩
  · have i1 : ¬ (len : Int) < 1 := by omega
    have i2 : ¬ (17 : Int) < (len : Int) := by omega
    obtain ⟨b, off, ea, -, hb⟩ := Hr.out.addr (by omega)
    subst ea
    clear hlen h1 h2
    have HB := Lib.hid hb
    clear hb
    go_enter Try.func48, Try.ntmps48
    go_wp2
    go_loopw [15] (fun i wr => ∃ k : Nat, k ≤ len ∧ i = .int .i64 k ∧ Fine L k ∧ Below w.heap.size w wr) (fun i _ => len - (intOf i).toNat)
    case atStart => exact ⟨0, Nat.zero_le _, rfl, fun j hj => by omega, Below.refl _ _⟩
    case round =>
      obtain ⟨k, hk, rfl, hf, hbw⟩ := hrel
      have HF := Lib.hid hf
      have WB := Lib.hid hbw
      clear hf hbw
      by_cases hlt : k < len
      · obtain ⟨b', off', xa, xn, xc, xa', xn', xc', D, e1, -, e2, dv⟩ := Hr.out.dev k (by rw [← Hlen.out]; exact hlt)
        clear e1
        obtain ⟨c0, c1, c2⟩ := (Hr.out.below WB.out (Nat.le_refl _)).dcell (by rw [← Hlen.out]; exact hlt) e2
        have DV := Lib.hid (dv.keep (.ofBelow WB.out (Nat.le_refl _)))
        have E2 : Hid ((devs L).getD k Dv.nil = D) := by show _ = _; rw [devs_getD, e2]
        clear e2 dv
        have al : Below wr.heap.size wr (wr.alloc (.cells [Value.slice xa xn xc, .slice xa' xn' xc', .bool D.dead].toArray 37)) := (Below.refl _ _).alloc (Nat.le_refl _) _
        have CC : Hid (Calls Try.prog 40 #[.agg #[.slice xa xn xc, .slice xa' xn' xc', .bool D.dead]] (wr.alloc (.cells [Value.slice xa xn xc, .slice xa' xn' xc', .bool D.dead].toArray 37)) fun e w' => e = .returned (.int .i64 (DK.kcode D : Nat)) ∧ Below (wr.alloc (.cells [Value.slice xa xn xc, .slice xa' xn' xc', .bool D.dead].toArray 37)).heap.size (wr.alloc (.cells [Value.slice xa xn xc, .slice xa' xn' xc', .bool D.dead].toArray 37)) w') :=
          check_any xa xn xc xa' xn' xc' D _ (((DV.out.mono (Nat.le_refl _) WB.out.size).at).here al)
        have AL := Lib.hid al
        clear al
        rcases Bool.eq_false_or_eq_true (DK.may D) with hm | hm
        · rw [kcode_may hm] at CC
          have HM := Lib.hid hm
          clear hm
          generalize D.dead = dd at *
          go_wp2_with fail
          refine CC.out.mono ?_
          rintro e w2 ⟨rfl, b2⟩
          have B2 := Lib.hid (thence WB.out (thence AL.out b2 (Nat.le_refl _)) (Nat.le_refl _))
          clear b2
          go_wp2_with fail
          go_roundw
          case rel => exact ⟨k + 1, by omega, by go_num, HF.out.next (by rw [E2.out]; exact HM.out), B2.out⟩
          case measure => simp [intOf]; omega
        · rw [show DK.kcode D = 8 by simp [DK.kcode, hm]] at CC
          have HC := Lib.hid (dcode_no (mays_bad (Ds := devs L) (k := k) (by rw [devs_length, ← Hlen.out]; exact hlt) (by rw [E2.out]; exact hm)))
          clear hm
          generalize D.dead = dd at *
          go_wp2_with fail
          refine CC.out.mono ?_
          rintro e w2 ⟨rfl, b2⟩
          have B2 := Lib.hid (thence WB.out (thence AL.out b2 (Nat.le_refl _)) (Nat.le_refl _))
          clear b2
          go_wp2_with fail
          go_ret
          exact ⟨by rw [HC.out]; rfl, B2.out⟩
      · obtain rfl : k = len := by omega
        have HC := Lib.hid (dcode_yes (mays_all (Ds := devs L) (by rw [devs_length, ← Hlen.out]; omega) (by rw [devs_length, ← Hlen.out]; omega) (fun j hj => HF.out j (by rw [devs_length, ← Hlen.out] at hj; exact hj))))
        go_wp2_with fail
        go_ret
        exact ⟨by rw [HC.out]; rfl, WB.out⟩

set_option maxHeartbeats 1000000 in
theorem refMays_any (a : Option Addr) (len cap : Nat) (L : List Dn) (w : World) (hr : Rg kDn 0 w.heap.size w a len cap L) :
    Calls Try.prog 53 #[.slice a len cap] w fun e w' => e = .returned (.bool (AK.mays (devs L))) ∧ Below w.heap.size w w' := by
  have hlen := hr.long
  have hs := hr.small'
  have Hlen := Lib.hid hlen
  have Hr := Lib.hid hr
  clear hr hlen
  go_enter Try.func53, Try.ntmps53
  go_wp2
  go_loopw [3] (fun i wr => ∃ k : Nat, k ≤ len ∧ i = .int .i64 k ∧ Fine L k ∧ Below w.heap.size w wr) (fun i _ => len - (intOf i).toNat)
  case atStart => exact ⟨0, Nat.zero_le _, rfl, fun j hj => by omega, Below.refl _ _⟩
  case round =>
    obtain ⟨k, hk, rfl, hf, hbw⟩ := hrel
    have HF := Lib.hid hf
    have WB := Lib.hid hbw
    clear hf hbw
    by_cases hlt : k < len
    · obtain ⟨b, off, xa, xn, xc, xa', xn', xc', D, e1, -, e2, dv⟩ := Hr.out.dev k (by rw [← Hlen.out]; exact hlt)
      subst e1
      obtain ⟨c0, c1, c2⟩ := (Hr.out.below WB.out (Nat.le_refl _)).dcell (by rw [← Hlen.out]; exact hlt) e2
      have DV := Lib.hid (dv.keep (.ofBelow WB.out (Nat.le_refl _)))
      have E2 : Hid ((devs L).getD k Dv.nil = D) := by show _ = _; rw [devs_getD, e2]
      clear e2 dv
      have CC : Hid (Calls Try.prog 75 #[.agg #[.slice xa xn xc, .slice xa' xn' xc', .bool D.dead]] wr fun e w' => e = .returned (.bool (DK.may D)) ∧ Below wr.heap.size wr w') :=
        may_any xa xn xc xa' xn' xc' D _ ((DV.out.mono (Nat.le_refl _) WB.out.size).at)
      rcases Bool.eq_false_or_eq_true (DK.may D) with hm | hm
      · rw [hm] at CC
        have HM := Lib.hid hm
        clear hm
        generalize D.dead = dd at *
        go_wp2_with fail
        refine CC.out.mono ?_
        rintro e w2 ⟨rfl, b2⟩
        have B2 := Lib.hid (thence WB.out b2 (Nat.le_refl _))
        clear b2
        go_wp2_with fail
        go_roundw
        case rel => exact ⟨k + 1, by omega, by go_num, HF.out.next (by rw [E2.out]; exact HM.out), B2.out⟩
        case measure => simp [intOf]; omega
      · rw [hm] at CC
        have HC := Lib.hid (mays_bad (Ds := devs L) (k := k) (by rw [devs_length, ← Hlen.out]; exact hlt) (by rw [E2.out]; exact hm))
        clear hm
        generalize D.dead = dd at *
        go_wp2_with fail
        refine CC.out.mono ?_
        rintro e w2 ⟨rfl, b2⟩
        have B2 := Lib.hid (thence WB.out b2 (Nat.le_refl _))
        clear b2
        go_wp2_with fail
        go_ret
        exact ⟨by rw [HC.out]; rfl, B2.out⟩
    · obtain rfl : k = len := by omega
      have hall : ∀ j, j < (devs L).length → DK.may ((devs L).getD j Dv.nil) = true := fun j hj => HF.out j (by rw [devs_length, ← Hlen.out] at hj; exact hj)
      by_cases h1 : 1 ≤ k
      · by_cases h2 : k ≤ 17
        · have HC := Lib.hid (mays_all (Ds := devs L) (by rw [devs_length, ← Hlen.out]; omega) (by rw [devs_length, ← Hlen.out]; omega) hall)
          have i1 : (1 : Int) ≤ (k : Int) := by omega
          have i2 : (k : Int) ≤ 17 := by omega
          clear hall
          go_wp2_with fail
          go_ret
          exact ⟨by rw [HC.out]; rfl, WB.out⟩
        · have HC := Lib.hid (mays_out (Ds := devs L) (by rw [devs_length, ← Hlen.out]; omega))
          have i1 : (1 : Int) ≤ (k : Int) := by omega
          have i2 : ¬ (k : Int) ≤ 17 := by omega
          have i3 : decide ((k : Int) ≤ 17) = false := by simpa using i2
          clear hall
          go_wp2_with fail
          go_ret
          exact ⟨by rw [HC.out]; rfl, WB.out⟩
      · have HC := Lib.hid (mays_out (Ds := devs L) (by rw [devs_length, ← Hlen.out]; omega))
        obtain rfl : k = 0 := by omega
        clear hall
        go_wp2_with fail
        go_ret
        exact ⟨by rw [HC.out]; rfl, WB.out⟩
end Go.Proofs.Ytnhfkfihlkbkfaa.PW
