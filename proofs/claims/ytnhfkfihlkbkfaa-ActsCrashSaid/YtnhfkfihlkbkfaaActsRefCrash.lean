/-
  Contracts of layer 5: the document's own crash.
-/
import Derived.Test.YtnhfkfihlkbkfaaActsCut
import Derived.Test.YtnhfkfihlkbkfaaActsWaits
namespace Go.Proofs.Ytnhfkfihlkbkfaa.PW
open Go.RowKit
open DK (Dv)
set_option linter.unusedVariables false
set_option linter.unusedSimpArgs false
set_option maxRecDepth 100000

set_option maxHeartbeats 2000000 in
theorem refCrash_any (b : Option Addr) (dn dc : Nat) (L : List Dn) (ka : Option Addr) (kl kc : Nat) (ks : List Bool) (w : World) (hr : Rg kDn 0 w.heap.size w b dn dc L) (hk : Rg kBool 0 w.heap.size w ka kl kc ks) :
    Calls Try.prog 27 #[.slice b dn dc, .slice ka kl kc] w (RefDs w (AK.crashed (devs L) ks AK.rcut) (AK.ccode (devs L) ks)) := by
  have CK := Lib.hid (refMays_any b dn dc L w hr)
  have Hlen := Lib.hid hk.long
  have hs := hk.small'
  have Hk := Lib.hid hk
  have Hr := Lib.hid hr
  clear hk hr
  rcases Bool.eq_false_or_eq_true (AK.mays (devs L)) with hm | hm
  rotate_left
  · have HC := Lib.hid (ccode_bad (ks := ks) hm)
    have HR := Lib.hid (crashed_no (f := AK.rcut) (by rw [HC.out]; omega))
    rw [hm] at CK
    rw [HC.out, HR.out]
    clear hm
    go_enter Try.func27, Try.ntmps27
    go_wp2_with fail
    refine CK.out.mono ?_
    rintro e w1 ⟨rfl, b1⟩
    go_wp2_with fail
    go_ret2
    exact RefDs.no _ _ _ b1
  have CM : Hid (∀ w1, Below w.heap.size w w1 → Calls Try.prog 57 #[.slice b dn dc] w1 fun e w' => e = .returned (.int .i64 (AK.many (devs L) : Nat)) ∧ Below w1.heap.size w1 w') := fun w1 h => refMany_any b dn dc L w1 (Hr.out.here h) hm
  have CT : Hid (∀ w1, Below w.heap.size w w1 → Calls Try.prog 58 #[.slice b dn dc, .slice ka kl kc] w1 (NewDv w1 (AK.cuts AK.rcut (devs L) ks))) := fun w1 h =>
    refCut_any b dn dc L ka kl kc ks w1 (Hr.out.here h) (Hk.out.here h) hm
  rw [hm] at CK
  by_cases h2 : AK.many (devs L) < kl
  · have HC := Lib.hid (ccode_many (ks := ks) hm (by rw [← Hlen.out]; exact h2))
    have HR := Lib.hid (crashed_no (f := AK.rcut) (by rw [HC.out]; omega))
    rw [HC.out, HR.out]
    have i2 : (AK.many (devs L) : Int) < (kl : Int) := by omega
    clear hm h2 CT
    generalize AK.many (devs L) = q at *
    go_enter Try.func27, Try.ntmps27
    go_wp2_with fail
    refine CK.out.mono ?_
    rintro e w1 ⟨rfl, b1⟩
    have B1 := Lib.hid b1
    clear b1
    go_wp2_with fail
    refine (CM.out _ B1.out).mono ?_
    rintro e w2 ⟨rfl, b2⟩
    go_wp2_with fail
    go_ret2
    exact RefDs.no _ _ _ (thence B1.out b2 (Nat.le_refl _))
  · have HC := Lib.hid (ccode_ok (ks := ks) hm (by rw [← Hlen.out]; exact h2))
    have HR : Hid (AK.crashed (devs L) ks AK.rcut = AK.cuts AK.rcut (devs L) ks) := by show _ = _; simp [AK.crashed, HC.out]
    rw [HC.out, HR.out]
    have i2 : ¬ (AK.many (devs L) : Int) < (kl : Int) := by omega
    clear hm h2
    generalize AK.many (devs L) = q at *
    go_enter Try.func27, Try.ntmps27
    go_wp2_with fail
    refine CK.out.mono ?_
    rintro e w1 ⟨rfl, b1⟩
    have B1 := Lib.hid b1
    clear b1
    go_wp2_with fail
    refine (CM.out _ B1.out).mono ?_
    rintro e w2 ⟨rfl, b2⟩
    have B2 := Lib.hid (thence B1.out b2 (Nat.le_refl _))
    clear b2
    go_wp2_with fail
    refine (CT.out _ B2.out).mono ?_
    rintro e w3 ⟨na, nl, nc, N2, rfl, rg2, hd2, b3⟩
    have B3 := Lib.hid (thence B2.out b3 (Nat.le_refl _))
    have RG2 := Lib.hid rg2
    have HD2 := Lib.hid hd2
    clear b3 rg2 hd2
    go_wp2_with fail
    go_ret2
    exact ⟨na, nl, nc, N2, rfl, RG2.out, HD2.out, B3.out⟩
end Go.Proofs.Ytnhfkfihlkbkfaa.PW
