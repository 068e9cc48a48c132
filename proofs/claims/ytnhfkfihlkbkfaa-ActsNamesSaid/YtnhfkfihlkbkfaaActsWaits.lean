/-
  Contracts of layer 5: how many writes wait, the program's answer and the document's own.
-/
import Derived.Test.YtnhfkfihlkbkfaaActsCheck
namespace Go.Proofs.Ytnhfkfihlkbkfaa.PW
open Go.RowKit
open DK (Dv)
set_option linter.unusedVariables false
set_option linter.unusedSimpArgs false
set_option maxRecDepth 100000

theorem many_snoc {Ds : List Dv} {k : Nat} (h : k < Ds.length) : AK.many (Ds.take (k + 1)) = AK.many (Ds.take k) + (Ds.getD k Dv.nil).ws.length := by
  unfold AK.many
  rw [List.take_succ_eq_append_getElem h, List.map_append, List.sum_append]
  simp [List.getD, h]
theorem many_small {Ds : List Dv} (h : AK.mays Ds = true) (k : Nat) : AK.many (Ds.take k) ≤ 1024 * k := by
  induction k with
  | zero => simp [AK.many]
  | succ k ih =>
    rcases Nat.lt_or_ge k Ds.length with hk | hk
    · rw [many_snoc hk]
      have := (DK.may_iff.1 ((AK.mays_iff.1 h).2.2 _ (AK.mem_get (d := Dv.nil) hk))).2.2.1
      omega
    · rw [List.take_of_length_le (by omega)] at ih ⊢
      omega
def wcount (Ds : List Dv) : Nat := if AK.mays Ds then AK.many Ds else 0

set_option maxHeartbeats 1000000 in
theorem refMany_any (a : Option Addr) (len cap : Nat) (L : List Dn) (w : World) (hr : Rg kDn 0 w.heap.size w a len cap L) (hm : AK.mays (devs L) = true) :
    Calls Try.prog 57 #[.slice a len cap] w fun e w' => e = .returned (.int .i64 (AK.many (devs L) : Nat)) ∧ Below w.heap.size w w' := by
  have hlen := hr.long
  have hs := hr.small'
  have Hlen := Lib.hid hlen
  have Hr := Lib.hid hr
  have HM := Lib.hid hm
  have h17 : len ≤ 17 := by have := (AK.mays_iff.1 hm).2.1; rw [devs_length] at this; omega
  clear hr hlen hm
  go_enter Try.func57, Try.ntmps57
  go_wp2
  go_loopw [3, 4] (fun m i wr => ∃ k : Nat, k ≤ len ∧ i = .int .i64 k ∧ m = .int .i64 (AK.many ((devs L).take k) : Nat) ∧ Below w.heap.size w wr) (fun _ i _ => len - (intOf i).toNat)
  case atStart => exact ⟨0, Nat.zero_le _, rfl, rfl, Below.refl _ _⟩
  case round =>
    obtain ⟨k, hk, rfl, rfl, hbw⟩ := hrel
    have WB := Lib.hid hbw
    clear hbw
    by_cases hlt : k < len
    · obtain ⟨b, off, xa, xn, xc, xa', xn', xc', D, e1, -, e2, dv⟩ := Hr.out.dev k (by rw [← Hlen.out]; exact hlt)
      subst e1
      obtain ⟨c0, c1, c2⟩ := (Hr.out.below WB.out (Nat.le_refl _)).dcell (by rw [← Hlen.out]; exact hlt) e2
      have hsn : AK.many ((devs L).take (k + 1)) = AK.many ((devs L).take k) + xn' := by
        rw [many_snoc (by rw [devs_length, ← Hlen.out]; exact hlt), devs_getD, e2, dv.at.long.2]
      have hb1 := many_small HM.out k
      have hb2 := many_small HM.out (k + 1)
      have HS := Lib.hid hsn
      have hx1 : AK.many ((devs L).take k) + xn' ≤ 1024 * (k + 1) := by omega
      clear e2 dv hsn hb2
      generalize AK.many ((devs L).take k) = m at *
      generalize D.dead = dd at *
      go_wp2_with fail
      go_roundw
      case rel => exact ⟨k + 1, by omega, by go_num, by rw [HS.out]; go_num, WB.out⟩
      case measure => simp [intOf]; omega
    · obtain rfl : k = len := by omega
      go_wp2_with fail
      go_ret
      exact ⟨by rw [List.take_of_length_le (by rw [devs_length, ← Hlen.out]; exact Nat.le_refl _)]; rfl, WB.out⟩

set_option maxHeartbeats 1000000 in
theorem refWaits_any (a : Option Addr) (len cap : Nat) (L : List Dn) (w : World) (hr : Rg kDn 0 w.heap.size w a len cap L) :
    Calls Try.prog 29 #[.slice a len cap] w fun e w' => e = .returned (.tuple #[.int .i64 (wcount (devs L) : Nat), .int .i64 (AK.dcode (devs L) : Nat)]) ∧ Below w.heap.size w w' := by
  have CD := Lib.hid (refMays_any a len cap L w hr)
  rcases Bool.eq_false_or_eq_true (AK.mays (devs L)) with hm | hm
  · have CM : Hid (∀ w1, Below w.heap.size w w1 → Calls Try.prog 57 #[.slice a len cap] w1 fun e w' => e = .returned (.int .i64 (AK.many (devs L) : Nat)) ∧ Below w1.heap.size w1 w') := fun w1 h => refMany_any a len cap L w1 (hr.here h) hm
    rw [hm] at CD
    rw [show wcount (devs L) = AK.many (devs L) by simp [wcount, hm], dcode_yes hm]
    clear hr hm
    generalize AK.many (devs L) = m at *
    go_enter Try.func29, Try.ntmps29
    go_wp2_with fail
    refine CD.out.mono ?_
    rintro e w1 ⟨rfl, b1⟩
    have B1 := Lib.hid b1
    clear b1
    go_wp2_with fail
    refine (CM.out _ B1.out).mono ?_
    rintro e w2 ⟨rfl, b2⟩
    go_wp2_with fail
    go_ret2
    exact ⟨rfl, thence B1.out b2 (Nat.le_refl _)⟩
  · rw [hm] at CD
    rw [show wcount (devs L) = 0 by simp [wcount, hm], dcode_no hm]
    clear hr hm
    go_enter Try.func29, Try.ntmps29
    go_wp2_with fail
    refine CD.out.mono ?_
    rintro e w1 ⟨rfl, b1⟩
    go_wp2_with fail
    go_ret2
    exact ⟨rfl, b1⟩

set_option maxHeartbeats 1000000 in
theorem waits_any (a : Option Addr) (len cap : Nat) (L : List Dn) (w : World) (hr : Rg kDn 0 w.heap.size w a len cap L) :
    Calls Try.prog 28 #[.slice a len cap] w fun e w' => e = .returned (.tuple #[.int .i64 (wcount (devs L) : Nat), .int .i64 (AK.dcode (devs L) : Nat)]) ∧ Below w.heap.size w w' := by
  have CD := Lib.hid (checkDisks_any a len cap L w hr)
  rcases Bool.eq_false_or_eq_true (AK.mays (devs L)) with hm | hm
  · rw [dcode_yes hm] at CD
    rw [show wcount (devs L) = AK.many (devs L) by simp [wcount, hm], dcode_yes hm]
    have hlen := hr.long
    have hs := hr.small'
    have Hlen := Lib.hid hlen
    have Hr := Lib.hid hr
    have HM := Lib.hid hm
    have h17 : len ≤ 17 := by have := (AK.mays_iff.1 hm).2.1; rw [devs_length] at this; omega
    clear hr hlen hm
    go_enter Try.func28, Try.ntmps28
    go_wp2_with fail
    refine CD.out.mono ?_
    rintro e w1 ⟨rfl, b1⟩
    have B1 := Lib.hid b1
    clear b1
    go_wp2_with fail
    go_loopw [5, 15] (fun m i wr => ∃ k : Nat, k ≤ len ∧ i = .int .i64 k ∧ m = .int .i64 (AK.many ((devs L).take k) : Nat) ∧ Below w.heap.size w wr) (fun _ i _ => len - (intOf i).toNat)
    case atStart => exact ⟨0, Nat.zero_le _, rfl, rfl, B1.out⟩
    case round =>
      obtain ⟨k, hk, rfl, rfl, hbw⟩ := hrel
      have WB := Lib.hid hbw
      clear hbw
      by_cases hlt : k < len
      · obtain ⟨b, off, xa, xn, xc, xa', xn', xc', D, e1, -, e2, dv⟩ := Hr.out.dev k (by rw [← Hlen.out]; exact hlt)
        subst e1
        obtain ⟨c0, c1, c2⟩ := (Hr.out.below WB.out (Nat.le_refl _)).dcell (by rw [← Hlen.out]; exact hlt) e2
        have hsn : AK.many ((devs L).take (k + 1)) = AK.many ((devs L).take k) + xn' := by
          rw [many_snoc (by rw [devs_length, ← Hlen.out]; exact hlt), devs_getD, e2, dv.at.long.2]
        have hb1 := many_small HM.out k
        have hb2 := many_small HM.out (k + 1)
        have HS := Lib.hid hsn
        have hx1 : AK.many ((devs L).take k) + xn' ≤ 1024 * (k + 1) := by omega
        have al : Below wr.heap.size wr (wr.alloc (.cells #[.slice xa xn xc, .slice xa' xn' xc', .bool D.dead] 37)) := (Below.refl _ _).alloc (Nat.le_refl _) _
        have B2 := Lib.hid (thence WB.out al (Nat.le_refl _))
        clear e2 dv hsn hb2 al
        generalize AK.many ((devs L).take k) = m at *
        generalize D.dead = dd at *
        go_wp2_with fail
        go_roundw
        case rel => exact ⟨k + 1, by omega, by go_num, by rw [HS.out]; go_num, B2.out⟩
        case measure => simp [intOf]; omega
      · obtain rfl : k = len := by omega
        go_wp2_with fail
        go_ret2
        exact ⟨by rw [List.take_of_length_le (by rw [devs_length, ← Hlen.out]; exact Nat.le_refl _)]; rfl, WB.out⟩
  · rw [dcode_no hm] at CD
    rw [show wcount (devs L) = 0 by simp [wcount, hm], dcode_no hm]
    clear hr hm
    go_enter Try.func28, Try.ntmps28
    go_wp2_with fail
    refine CD.out.mono ?_
    rintro e w1 ⟨rfl, b1⟩
    go_wp2_with fail
    go_ret2
    exact ⟨rfl, b1⟩
end Go.Proofs.Ytnhfkfihlkbkfaa.PW
