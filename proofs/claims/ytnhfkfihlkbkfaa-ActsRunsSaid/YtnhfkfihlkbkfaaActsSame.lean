/-
  Contracts of layer 5: whether two lists of acts are the same; the program's.
-/
import Derived.Test.YtnhfkfihlkbkfaaActsMay
import Derived.Test.YtnhfkfihlkbkfaaDiskSame
namespace Go.Proofs.Ytnhfkfihlkbkfaa.PW
open Go.RowKit
open DK (Dv)
set_option linter.unusedVariables false
set_option linter.unusedSimpArgs false
set_option maxRecDepth 100000

theorem ac_eq {d e p q : Int} {k j : Nat} {l m : List Nat} : (⟨d, k, p, l⟩ : AK.Ac) = ⟨e, j, q, m⟩ ↔ d = e ∧ k = j ∧ p = q ∧ l = m := by simp

set_option maxHeartbeats 1000000 in
theorem sameAct_any (d p : Int) (k : Nat) (xa : Option Addr) (xn xc : Nat) (l : List Nat) (e q : Int) (j : Nat) (ya : Option Addr) (yn yc : Nat) (m : List Nat) (w : World) (hr : Rd w.heap.size w xa xn xc l) (hq : Rd w.heap.size w ya yn yc m) :
    Calls Try.prog 56 #[.agg #[.int .i64 d, .int .u8 (k : Int), .int .i64 p, .slice xa xn xc], .agg #[.int .i64 e, .int .u8 (j : Int), .int .i64 q, .slice ya yn yc]] w fun en w' => en = .returned (.bool (decide ((⟨d, k, p, l⟩ : AK.Ac) = ⟨e, j, q, m⟩))) ∧ Below w.heap.size w w' := by
  have hb2 : Below w.heap.size w ((w.alloc (.cells #[.int .i64 d, .int .u8 (k : Int), .int .i64 p, .slice xa xn xc] 33)).alloc (.cells #[.int .i64 e, .int .u8 (j : Int), .int .i64 q, .slice ya yn yc] 33)) := ((Below.refl _ _).alloc (Nat.le_refl _) _).alloc (by simp) _
  have C := Lib.hid (equal_any xa xn xc l ya yn yc m _ (hr.here hb2) (hq.here hb2))
  have HB := Lib.hid hb2
  have HE := Lib.hid (@ac_eq d e p q k j l m)
  clear hb2 hr hq
  by_cases h1 : d = e
  · subst h1
    by_cases h2 : k = j
    · subst h2
      by_cases h3 : p = q
      · subst h3
        rw [show decide ((⟨d, k, p, l⟩ : AK.Ac) = ⟨d, k, p, m⟩) = decide (l = m) by simp]
        generalize decide (l = m) = bb at *
        clear HE
        go_enter Try.func56, Try.ntmps56
        go_wp2_with fail
        refine C.out.mono ?_
        rintro en w2 ⟨rfl, rfl⟩
        go_wp2_with fail
        go_ret
        exact ⟨rfl, HB.out⟩
      · rw [decide_eq_false (fun h => h3 (HE.out.1 h).2.2.1)]
        have e0 : (p == q) = false := by rw [beq_eq_false_iff_ne]; exact h3
        clear HE C
        go_enter Try.func56, Try.ntmps56
        go_wp2_with fail
        go_ret
        exact ⟨rfl, HB.out⟩
    · rw [decide_eq_false (fun h => h2 (HE.out.1 h).2.1)]
      have e0 : ((k : Int) == (j : Int)) = false := by rw [beq_eq_false_iff_ne]; omega
      clear HE C
      go_enter Try.func56, Try.ntmps56
      go_wp2_with fail
      go_ret
      exact ⟨rfl, HB.out⟩
  · rw [decide_eq_false (fun h => h1 (HE.out.1 h).1)]
    have e0 : (d == e) = false := by rw [beq_eq_false_iff_ne]; exact h1
    clear HE C
    go_enter Try.func56, Try.ntmps56
    go_wp2_with fail
    go_ret
    exact ⟨rfl, HB.out⟩

/-- Two lists whose first k are the same. -/
def Alk (L M : List Ax) (k : Nat) : Prop := ∀ i, i < k → (acs L).getD i AK.Ac.nil = (acs M).getD i AK.Ac.nil
theorem Alk.next {L M : List Ax} {k : Nat} (h : Alk L M k) (hk : (acs L).getD k AK.Ac.nil = (acs M).getD k AK.Ac.nil) : Alk L M (k + 1) := fun i hi => by
  by_cases e : i = k
  · subst e; exact hk
  · exact h i (by omega)
theorem Alk.all {L M : List Ax} (h : Alk L M L.length) (hl : L.length = M.length) : AK.sameA (acs L) (acs M) = true := by
  unfold AK.sameA
  rw [decide_eq_true_eq]
  apply List.ext_getElem (by rw [acs_length, acs_length, hl])
  intro i h1 h2
  have := h i (by rw [acs_length] at h1; exact h1)
  simp only [List.getD, List.getElem?_eq_getElem h1, List.getElem?_eq_getElem h2, Option.getD_some] at this
  exact this
theorem sameA_not {L M : List Ax} {k : Nat} (h : (acs L).getD k AK.Ac.nil ≠ (acs M).getD k AK.Ac.nil) : AK.sameA (acs L) (acs M) = false := by
  unfold AK.sameA
  rw [decide_eq_false_iff_not]
  intro e; rw [e] at h; exact h rfl
theorem sameA_len {L M : List Ax} (h : L.length ≠ M.length) : AK.sameA (acs L) (acs M) = false := by
  unfold AK.sameA
  rw [decide_eq_false_iff_not]
  intro e
  have := congrArg List.length e
  rw [acs_length, acs_length] at this
  exact h this

set_option maxHeartbeats 1000000 in
/-- 'slices.EqualFunc' over acts. -/
theorem eqActs_any (a : Option Addr) (n c : Nat) (L : List Ax) (b : Option Addr) (m d : Nat) (M : List Ax) (w : World) (hr : Rg kAx 0 w.heap.size w a n c L) (hq : Rg kAx 0 w.heap.size w b m d M) :
    Calls Try.prog 55 #[.slice a n c, .slice b m d, .func (.func 56) #[] #[]] w fun e w' => e = .returned (.bool (AK.sameA (acs L) (acs M))) ∧ Below w.heap.size w w' := by
  have Hn := Lib.hid hr.long
  have Hm := Lib.hid hq.long
  have hs := hr.small'
  have hs' := hq.small'
  have Hr := Lib.hid hr
  have Hq := Lib.hid hq
  clear hr hq
  by_cases hnm : n = m
  · subst hnm
    have HL : Hid (L.length = M.length) := Hn.out.symm.trans Hm.out
    go_enter Try.func55, Try.ntmps55
    go_wp2_with fail
    go_loopw [17] (fun i wr => ∃ k : Nat, k ≤ n ∧ i = .int .i64 k ∧ Alk L M k ∧ Below w.heap.size w wr) (fun i _ => n - (intOf i).toNat)
    case atStart => exact ⟨0, Nat.zero_le _, rfl, fun i hi => by omega, Below.refl _ _⟩
    case round =>
      obtain ⟨k, hk, rfl, hf, hbw⟩ := hrel
      have HF := Lib.hid hf
      have WB := Lib.hid hbw
      clear hf hbw
      by_cases hlt : k < n
      · have hkL : k < L.length := by rw [← Hn.out]; exact hlt
        have hkM : k < M.length := by rw [← Hm.out]; exact hlt
        obtain ⟨ab, off, d1, k1, p1, xa, xn, xc, xl, e1, -, e2, rd, -⟩ := Hr.out.act k hkL
        obtain ⟨bb, off', d2, k2, p2, ya, yn, yc, yl, e1', hbb, e2', rd', -⟩ := Hq.out.act k hkM
        have hbw := Nat.lt_of_lt_of_le hbb WB.out.size
        subst e1 e1'
        obtain ⟨c0, c1, c2, c3⟩ := (Hr.out.below WB.out (Nat.le_refl _)).acell hkL e2
        obtain ⟨c0', c1', c2', c3'⟩ := (Hq.out.below WB.out (Nat.le_refl _)).acell hkM e2'
        have E2 : Hid ((acs L).getD k AK.Ac.nil = ⟨d1, k1, p1, xl⟩) := by show _ = _; rw [acs_getD, e2]; rfl
        have E2' : Hid ((acs M).getD k AK.Ac.nil = ⟨d2, k2, p2, yl⟩) := by show _ = _; rw [acs_getD, e2']; rfl
        have al : Below wr.heap.size wr ((wr.alloc (.cells #[.int .i64 d1, .int .u8 (k1 : Int), .int .i64 p1, .slice xa xn xc] 33)).alloc (.cells #[.int .i64 d2, .int .u8 (k2 : Int), .int .i64 p2, .slice ya yn yc] 33)) := ((Below.refl _ _).alloc (Nat.le_refl _) _).alloc (by simp) _
        have WA := thence WB.out al (Nat.le_refl _)
        have CS := Lib.hid (sameAct_any d1 p1 k1 xa xn xc xl d2 p2 k2 ya yn yc yl _ ((rd.1.below WA).mono WA.size) ((rd'.1.below WA).mono WA.size))
        have HWA := Lib.hid WA
        clear e2 e2' rd rd' al WA hkL hkM
        rcases Bool.eq_false_or_eq_true (decide ((⟨d1, k1, p1, xl⟩ : AK.Ac) = ⟨d2, k2, p2, yl⟩)) with hd | hd
        · rw [hd] at CS
          have HX : Hid ((acs L).getD k AK.Ac.nil = (acs M).getD k AK.Ac.nil) := by show _ = _; rw [E2.out, E2'.out]; exact of_decide_eq_true hd
          clear hd
          go_wp2_with fail
          refine CS.out.mono ?_
          rintro e w2 ⟨rfl, b2⟩
          have B2 := Lib.hid (thence HWA.out b2 (Nat.le_refl _))
          clear b2
          go_wp2_with fail
          go_roundw
          case rel => exact ⟨k + 1, by omega, by go_num, HF.out.next HX.out, B2.out⟩
          case measure => simp [intOf]; omega
        · rw [hd] at CS
          have HC := Lib.hid (sameA_not (L := L) (M := M) (k := k) (by rw [E2.out, E2'.out]; exact of_decide_eq_false hd))
          clear hd
          go_wp2_with fail
          refine CS.out.mono ?_
          rintro e w2 ⟨rfl, b2⟩
          have B2 := Lib.hid (thence HWA.out b2 (Nat.le_refl _))
          clear b2
          go_wp2_with fail
          go_ret
          exact ⟨by rw [HC.out]; rfl, B2.out⟩
      · obtain rfl : k = n := by omega
        have HC := Lib.hid (Alk.all (L := L) (M := M) (by rw [← Hn.out]; exact HF.out) HL.out)
        go_wp2_with fail
        go_ret
        exact ⟨by rw [HC.out]; rfl, WB.out⟩
  · have e0 : ((n : Int) == (m : Int)) = false := by rw [beq_eq_false_iff_ne]; omega
    have e1 : ((n : Int) != (m : Int)) = true := by rw [bne, e0]; rfl
    have e2 : ¬ (n : Int) = (m : Int) := by omega
    have HC := Lib.hid (sameA_len (L := L) (M := M) (by rw [← Hn.out, ← Hm.out]; exact hnm))
    go_enter Try.func55, Try.ntmps55
    go_wp2_with fail
    go_ret
    exact ⟨by rw [HC.out]; rfl, Below.refl _ _⟩

theorem sameActs_any (a : Option Addr) (n c : Nat) (L : List Ax) (b : Option Addr) (m d : Nat) (M : List Ax) (w : World) (hr : Rg kAx 0 w.heap.size w a n c L) (hq : Rg kAx 0 w.heap.size w b m d M) :
    Calls Try.prog 24 #[.slice a n c, .slice b m d] w fun e w' => e = .returned (.bool (AK.sameA (acs L) (acs M))) ∧ Below w.heap.size w w' := by
  have CE := Lib.hid (eqActs_any a n c L b m d M w hr hq)
  clear hr hq
  go_enter Try.func24, Try.ntmps24
  go_wp2_with fail
  refine CE.out.mono ?_
  rintro e w2 ⟨rfl, b2⟩
  go_wp2_with fail
  go_ret
  exact ⟨rfl, b2⟩
end Go.Proofs.Ytnhfkfihlkbkfaa.PW
