/-
  Contracts of layer 5: whether two lists of acts are the same; the document's own.
-/
import Derived.Test.YtnhfkfihlkbkfaaActsSame
import Derived.Test.YtnhfkfihlkbkfaaDiskRefSame
namespace Go.Proofs.Ytnhfkfihlkbkfaa.PW
open Go.RowKit
open DK (Dv)
set_option linter.unusedVariables false
set_option linter.unusedSimpArgs false
set_option maxRecDepth 100000

set_option maxHeartbeats 2000000 in
theorem refSameActs_any (a : Option Addr) (n c : Nat) (L : List Ax) (b : Option Addr) (m d : Nat) (M : List Ax) (w : World) (hr : Rg kAx 0 w.heap.size w a n c L) (hq : Rg kAx 0 w.heap.size w b m d M) :
    Calls Try.prog 25 #[.slice a n c, .slice b m d] w fun e w' => e = .returned (.bool (AK.sameA (acs L) (acs M))) ∧ Below w.heap.size w w' := by
  have Hn := Lib.hid hr.long
  have Hm := Lib.hid hq.long
  have hs := hr.small'
  have hs' := hq.small'
  have Hr := Lib.hid hr
  have Hq := Lib.hid hq
  clear hr hq
  by_cases hnm : n = m
  · subst hnm
    have HL : Hid (L.length = M.length) := Hn.out.symm.trans Hm.out
    go_enter Try.func25, Try.ntmps25
    go_wp2_with fail
    go_loopw [5] (fun i wr => ∃ k : Nat, k ≤ n ∧ i = .int .i64 k ∧ Alk L M k ∧ Below w.heap.size w wr) (fun i _ => n - (intOf i).toNat)
    case atStart => exact ⟨0, Nat.zero_le _, rfl, fun i hi => by omega, Below.refl _ _⟩
    case round =>
      obtain ⟨k, hk, rfl, hf, hbw⟩ := hrel
      have HF := Lib.hid hf
      have WB := Lib.hid hbw
      clear hf hbw
      by_cases hlt : k < n
      · have hkL : k < L.length := by rw [← Hn.out]; exact hlt
        have hkM : k < M.length := by rw [← Hm.out]; exact hlt
        obtain ⟨ab, off, d1, k1, p1, xa, xn, xc, xl, e1, -, e2, rd, hk1⟩ := Hr.out.act k hkL
        obtain ⟨bb, off', d2, k2, p2, ya, yn, yc, yl, e1', -, e2', rd', hk2⟩ := Hq.out.act k hkM
        subst e1 e1'
        obtain ⟨c0, c1, c2, c3⟩ := (Hr.out.below WB.out (Nat.le_refl _)).acell hkL e2
        obtain ⟨c0', c1', c2', c3'⟩ := (Hq.out.below WB.out (Nat.le_refl _)).acell hkM e2'
        have E2 : Hid ((acs L).getD k AK.Ac.nil = ⟨d1, k1, p1, xl⟩) := by show _ = _; rw [acs_getD, e2]; rfl
        have E2' : Hid ((acs M).getD k AK.Ac.nil = ⟨d2, k2, p2, yl⟩) := by show _ = _; rw [acs_getD, e2']; rfl
        have rx := rd.1.below WB.out
        have ry := rd'.1.below WB.out
        have tx := fun nq => text_is (wr.drewN nq) _ _ _ _ (rx.drewN nq)
        have ty := fun nq => text_is (wr.drewN nq) _ _ _ _ (ry.drewN nq)
        have hbx := rx.byt
        have hby := ry.byt
        have i1 : (k : Int) < (n : Int) := by omega
        clear e2 e2' rd rd' hkL hkM rx ry
        by_cases z1 : d1 = d2
        · subst z1
          by_cases z2 : k1 = k2
          · subst z2
            by_cases z3 : p1 = p2
            · subst z3
              by_cases z4 : xl = yl
              · subst z4
                have HX : Hid ((acs L).getD k AK.Ac.nil = (acs M).getD k AK.Ac.nil) := by show _ = _; rw [E2.out, E2'.out]
                clear hbx hby
                generalize str xl = sx at *
                go_wp2_with fail
                go_quiet (fail)
                go_wp2_with fail
                go_roundw
                case rel => exact ⟨k + 1, by omega, by go_num, HF.out.next HX.out, below_drewN WB.out _⟩
                case measure => simp [intOf]; omega
              · have HC := Lib.hid (sameA_not (L := L) (M := M) (k := k) (by rw [E2.out, E2'.out]; intro h; exact z4 (ac_eq.1 h).2.2.2))
                have e0 : ((str xl).toList == (str yl).toList) = false := str_ne hbx hby z4
                clear hbx hby
                generalize str xl = sx at *
                generalize str yl = sy at *
                go_wp2_with fail
                go_quiet (fail)
                go_wp2_with fail
                go_ret
                exact ⟨by rw [HC.out]; rfl, below_drewN WB.out _⟩
            · have HC := Lib.hid (sameA_not (L := L) (M := M) (k := k) (by rw [E2.out, E2'.out]; intro h; exact z3 (ac_eq.1 h).2.2.1))
              have e0 : (p1 == p2) = false := by rw [beq_eq_false_iff_ne]; exact z3
              have e0' : (p1 != p2) = true := by rw [bne, e0]; rfl
              clear tx ty hbx hby
              go_wp2_with fail
              go_quiet (fail)
              go_wp2_with fail
              go_ret
              exact ⟨by rw [HC.out]; rfl, below_drewN WB.out _⟩
          · have HC := Lib.hid (sameA_not (L := L) (M := M) (k := k) (by rw [E2.out, E2'.out]; intro h; exact z2 (ac_eq.1 h).2.1))
            have e0 : ((k1 : Int) == (k2 : Int)) = false := by rw [beq_eq_false_iff_ne]; omega
            have e0' : ((k1 : Int) != (k2 : Int)) = true := by rw [bne, e0]; rfl
            have e0'' : ¬ k1 = k2 := z2
            clear tx ty hbx hby
            go_wp2_with fail
            go_quiet (fail)
            go_wp2_with fail
            go_ret
            exact ⟨by rw [HC.out]; rfl, below_drewN WB.out _⟩
        · have HC := Lib.hid (sameA_not (L := L) (M := M) (k := k) (by rw [E2.out, E2'.out]; intro h; exact z1 (ac_eq.1 h).1))
          have e0 : (d1 == d2) = false := by rw [beq_eq_false_iff_ne]; exact z1
          have e0' : (d1 != d2) = true := by rw [bne, e0]; rfl
          clear tx ty hbx hby
          go_wp2_with fail
          go_quiet (fail)
          go_wp2_with fail
          go_ret
          exact ⟨by rw [HC.out]; rfl, below_drewN WB.out _⟩
      · obtain rfl : k = n := by omega
        have HC := Lib.hid (Alk.all (L := L) (M := M) (by rw [← Hn.out]; exact HF.out) HL.out)
        go_wp2_with fail
        go_ret
        exact ⟨by rw [HC.out]; rfl, WB.out⟩
  · have e0 : ((n : Int) == (m : Int)) = false := by rw [beq_eq_false_iff_ne]; omega
    have e1 : ((n : Int) != (m : Int)) = true := by rw [bne, e0]; rfl
    have e2 : ¬ (n : Int) = (m : Int) := by omega
    have HC := Lib.hid (sameA_len (L := L) (M := M) (by rw [← Hn.out, ← Hm.out]; exact hnm))
    go_enter Try.func25, Try.ntmps25
    go_wp2_with fail
    go_ret
    exact ⟨by rw [HC.out]; rfl, Below.refl _ _⟩
end Go.Proofs.Ytnhfkfihlkbkfaa.PW
