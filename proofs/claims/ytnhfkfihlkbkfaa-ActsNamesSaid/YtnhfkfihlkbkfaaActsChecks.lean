/-
  Contracts of layer 5: whether acts may be, the program's answer and the document's own.
-/
import Derived.Test.YtnhfkfihlkbkfaaActsRefMay
namespace Go.Proofs.Ytnhfkfihlkbkfaa.PW
open Go.RowKit
open DK (Dv)
set_option linter.unusedVariables false
set_option linter.unusedSimpArgs false
set_option maxRecDepth 100000

theorem acode_bad {Ds : List Dv} {As : List AK.Ac} (h : AK.mays Ds = false) : AK.acode Ds As = 8 := by simp [AK.acode, h]
theorem acode_many {Ds : List Dv} {As : List AK.Ac} (h : AK.mays Ds = true) (h2 : 1024 < As.length) : AK.acode Ds As = 4 := by simp [AK.acode, h, h2]
theorem acode_not {Ds : List Dv} {As : List AK.Ac} (h : AK.mays Ds = true) (h2 : As.length ≤ 1024) {k : Nat} (hk : k < As.length) (h3 : AK.okA Ds (As.getD k AK.Ac.nil) = false) : AK.acode Ds As = 2 := by
  have : As.all (AK.okA Ds) = false := by
    rw [← Bool.not_eq_true, List.all_eq_true]
    intro hh
    have := hh _ (AK.mem_get (d := AK.Ac.nil) hk)
    rw [h3] at this; cases this
  simp [AK.acode, h, this]
  exact h2
theorem acode_ok {Ds : List Dv} {As : List AK.Ac} (h : AK.mays Ds = true) (h2 : As.length ≤ 1024) (h3 : ∀ k, k < As.length → AK.okA Ds (As.getD k AK.Ac.nil) = true) : AK.acode Ds As = 0 := by
  have : As.all (AK.okA Ds) = true := List.all_eq_true.2 (AK.all_getD (d := AK.Ac.nil) h3)
  simp [AK.acode, h, this]
  omega
/-- Acts whose first k may be. -/
def FineA (L : List Dn) (M : List Ax) (k : Nat) : Prop := ∀ j, j < k → AK.okA (devs L) ((acs M).getD j AK.Ac.nil) = true
theorem FineA.next {L : List Dn} {M : List Ax} {k : Nat} (h : FineA L M k) (hk : AK.okA (devs L) ((acs M).getD k AK.Ac.nil) = true) : FineA L M (k + 1) := fun j hj => by
  by_cases e : j = k
  · subst e; exact hk
  · exact h j (by omega)

set_option maxHeartbeats 1000000 in
theorem actsCheck_any (a : Option Addr) (len cap : Nat) (M : List Ax) (b : Option Addr) (n c : Nat) (L : List Dn) (w : World) (ha : Rg kAx 0 w.heap.size w a len cap M) (hr : Rg kDn 0 w.heap.size w b n c L) :
    Calls Try.prog 17 #[.slice a len cap, .slice b n c] w fun e w' => e = .returned (.int .i64 (AK.acode (devs L) (acs M) : Nat)) ∧ Below w.heap.size w w' := by
  have hlen := ha.long
  have hs := ha.small'
  have Hlen : Hid (len = (acs M).length) := by show _ = _; rw [acs_length]; exact hlen
  have Hlen' := Lib.hid hlen
  have Ha := Lib.hid ha
  have Hr := Lib.hid hr
  have CD := Lib.hid (checkDisks_any b n c L w hr)
  clear ha hr hlen
  rcases Bool.eq_false_or_eq_true (AK.mays (devs L)) with hm | hm
  · rw [dcode_yes hm] at CD
    by_cases h1 : 1024 < len
    · have HC := Lib.hid (acode_many (As := acs M) hm (by rw [← Hlen.out]; exact h1))
      have i1 : (1024 : Int) < (len : Int) := by omega
      clear h1 hm
      go_enter Try.func17, Try.ntmps17
      go_wp2_with fail
      refine CD.out.mono ?_
      rintro e w1 ⟨rfl, b1⟩
      go_wp2_with fail
      go_ret
      exact ⟨by rw [HC.out]; rfl, b1⟩
    · have i1 : ¬ (1024 : Int) < (len : Int) := by omega
      have HM := Lib.hid hm
      have H1 := Lib.hid h1
      clear h1 hm
      go_enter Try.func17, Try.ntmps17
      go_wp2_with fail
      refine CD.out.mono ?_
      rintro e w1 ⟨rfl, b1⟩
      have B1 := Lib.hid b1
      clear b1
      go_wp2_with fail
      go_loopw [18] (fun i wr => ∃ k : Nat, k ≤ len ∧ i = .int .i64 k ∧ FineA L M k ∧ Below w.heap.size w wr) (fun i _ => len - (intOf i).toNat)
      case atStart => exact ⟨0, Nat.zero_le _, rfl, fun j hj => by omega, B1.out⟩
      case round =>
        obtain ⟨k, hk, rfl, hf, hbw⟩ := hrel
        have HF := Lib.hid hf
        have WB := Lib.hid hbw
        clear hf hbw
        by_cases hlt : k < len
        · obtain ⟨b', off', d, kd, p, xa, xlen, xcap, xl, e1, -, e2, rd, hkd⟩ := Ha.out.act k (by rw [← Hlen'.out]; exact hlt)
          subst e1
          obtain ⟨c0, c1, c2, c3⟩ := (Ha.out.below WB.out (Nat.le_refl _)).acell (by rw [← Hlen'.out]; exact hlt) e2
          have E2 : Hid ((acs M).getD k AK.Ac.nil = ⟨d, kd, p, xl⟩) := by show _ = _; rw [acs_getD, e2]; rfl
          have hxl := rd.1.long
          have hxs : xlen ≤ maxLen := by have := rd.1.fits; have := rd.1.small; omega
          clear e2 rd
          have al : Below wr.heap.size wr (wr.alloc (.cells [Value.int .i64 d, .int .u8 (kd : Int), .int .i64 p, .slice xa xlen xcap].toArray 33)) := (Below.refl _ _).alloc (Nat.le_refl _) _
          have AL := Lib.hid al
          clear al
          have CM : Hid (Calls Try.prog 49 #[.agg #[.int .i64 d, .int .u8 (kd : Int), .int .i64 p, .slice xa xlen xcap], .slice b n c] (wr.alloc (.cells [Value.int .i64 d, .int .u8 (kd : Int), .int .i64 p, .slice xa xlen xcap].toArray 33)) fun e w' => e = .returned (.bool (AK.okA (devs L) ⟨d, kd, p, xl⟩)) ∧ Below (wr.alloc (.cells [Value.int .i64 d, .int .u8 (kd : Int), .int .i64 p, .slice xa xlen xcap].toArray 33)).heap.size (wr.alloc (.cells [Value.int .i64 d, .int .u8 (kd : Int), .int .i64 p, .slice xa xlen xcap].toArray 33)) w') :=
            mayBe_any d p kd xa xlen xcap xl b n c L _ (((Hr.out.here WB.out)).here AL.out) hxl hxs hkd
          clear hxl hxs hkd
          rcases Bool.eq_false_or_eq_true (AK.okA (devs L) ⟨d, kd, p, xl⟩) with ho | ho
          · rw [ho] at CM
            have HO : Hid (AK.okA (devs L) ((acs M).getD k AK.Ac.nil) = true) := by show _ = _; rw [E2.out]; exact ho
            clear ho
            go_wp2_with fail
            refine CM.out.mono ?_
            rintro e w2 ⟨rfl, b2⟩
            have B2 := Lib.hid (thence WB.out (thence AL.out b2 (Nat.le_refl _)) (Nat.le_refl _))
            clear b2
            go_wp2_with fail
            go_roundw
            case rel => exact ⟨k + 1, by omega, by go_num, HF.out.next HO.out, B2.out⟩
            case measure => simp [intOf]; omega
          · rw [ho] at CM
            have HC := Lib.hid (acode_not HM.out (by rw [← Hlen.out]; have := H1.out; omega) (k := k) (by rw [← Hlen.out]; exact hlt) (by rw [E2.out]; exact ho))
            clear ho
            go_wp2_with fail
            refine CM.out.mono ?_
            rintro e w2 ⟨rfl, b2⟩
            have B2 := Lib.hid (thence WB.out (thence AL.out b2 (Nat.le_refl _)) (Nat.le_refl _))
            clear b2
            go_wp2_with fail
            go_ret
            exact ⟨by rw [HC.out]; rfl, B2.out⟩
        · obtain rfl : k = len := by omega
          have HC := Lib.hid (acode_ok (As := acs M) HM.out (by rw [← Hlen.out]; have := H1.out; omega) (fun j hj => HF.out j (by rw [← Hlen.out] at hj; exact hj)))
          go_wp2_with fail
          go_ret
          exact ⟨by rw [HC.out]; rfl, WB.out⟩
  · rw [dcode_no hm] at CD
    have HC := Lib.hid (acode_bad (As := acs M) hm)
    clear hm
    go_enter Try.func17, Try.ntmps17
    go_wp2_with fail
    refine CD.out.mono ?_
    rintro e w1 ⟨rfl, b1⟩
    go_wp2_with fail
    go_ret
    exact ⟨by rw [HC.out]; rfl, b1⟩
set_option maxHeartbeats 1000000 in
theorem refActsCheck_any (a : Option Addr) (len cap : Nat) (M : List Ax) (b : Option Addr) (n c : Nat) (L : List Dn) (w : World) (ha : Rg kAx 0 w.heap.size w a len cap M) (hr : Rg kDn 0 w.heap.size w b n c L) :
    Calls Try.prog 23 #[.slice a len cap, .slice b n c] w fun e w' => e = .returned (.int .i64 (AK.acode (devs L) (acs M) : Nat)) ∧ Below w.heap.size w w' := by
  have hlen := ha.long
  have hs := ha.small'
  have Hlen : Hid (len = (acs M).length) := by show _ = _; rw [acs_length]; exact hlen
  have Hlen' := Lib.hid hlen
  have Ha := Lib.hid ha
  have Hr := Lib.hid hr
  have CD := Lib.hid (refMays_any b n c L w hr)
  clear ha hr hlen
  rcases Bool.eq_false_or_eq_true (AK.mays (devs L)) with hm | hm
  · rw [hm] at CD
    by_cases h1 : 1024 < len
    · have HC := Lib.hid (acode_many (As := acs M) hm (by rw [← Hlen.out]; exact h1))
      have i1 : (1024 : Int) < (len : Int) := by omega
      clear h1 hm
      go_enter Try.func23, Try.ntmps23
      go_wp2_with fail
      refine CD.out.mono ?_
      rintro e w1 ⟨rfl, b1⟩
      go_wp2_with fail
      go_ret
      exact ⟨by rw [HC.out]; rfl, b1⟩
    · have i1 : ¬ (1024 : Int) < (len : Int) := by omega
      have HM := Lib.hid hm
      have H1 := Lib.hid h1
      clear h1 hm
      go_enter Try.func23, Try.ntmps23
      go_wp2_with fail
      refine CD.out.mono ?_
      rintro e w1 ⟨rfl, b1⟩
      have B1 := Lib.hid b1
      clear b1
      go_wp2_with fail
      go_loopw [5] (fun i wr => ∃ k : Nat, k ≤ len ∧ i = .int .i64 k ∧ FineA L M k ∧ Below w.heap.size w wr) (fun i _ => len - (intOf i).toNat)
      case atStart => exact ⟨0, Nat.zero_le _, rfl, fun j hj => by omega, B1.out⟩
      case round =>
        obtain ⟨k, hk, rfl, hf, hbw⟩ := hrel
        have HF := Lib.hid hf
        have WB := Lib.hid hbw
        clear hf hbw
        by_cases hlt : k < len
        · obtain ⟨b', off', d, kd, p, xa, xlen, xcap, xl, e1, -, e2, rd, hkd⟩ := Ha.out.act k (by rw [← Hlen'.out]; exact hlt)
          subst e1
          obtain ⟨c0, c1, c2, c3⟩ := (Ha.out.below WB.out (Nat.le_refl _)).acell (by rw [← Hlen'.out]; exact hlt) e2
          have E2 : Hid ((acs M).getD k AK.Ac.nil = ⟨d, kd, p, xl⟩) := by show _ = _; rw [acs_getD, e2]; rfl
          have hxl := rd.1.long
          have hxs : xlen ≤ maxLen := by have := rd.1.fits; have := rd.1.small; omega
          clear e2 rd
          have CM : Hid (Calls Try.prog 54 #[.agg #[.int .i64 d, .int .u8 (kd : Int), .int .i64 p, .slice xa xlen xcap], .slice b n c] wr fun e w' => e = .returned (.bool (AK.okA (devs L) ⟨d, kd, p, xl⟩)) ∧ Below wr.heap.size wr w') :=
            refMayA_any d p kd xa xlen xcap xl b n c L _ (Hr.out.here WB.out) hxl hxs hkd
          clear hxl hxs hkd
          rcases Bool.eq_false_or_eq_true (AK.okA (devs L) ⟨d, kd, p, xl⟩) with ho | ho
          · rw [ho] at CM
            have HO : Hid (AK.okA (devs L) ((acs M).getD k AK.Ac.nil) = true) := by show _ = _; rw [E2.out]; exact ho
            clear ho
            go_wp2_with fail
            refine CM.out.mono ?_
            rintro e w2 ⟨rfl, b2⟩
            have B2 := Lib.hid (thence WB.out (b2) (Nat.le_refl _))
            clear b2
            go_wp2_with fail
            go_roundw
            case rel => exact ⟨k + 1, by omega, by go_num, HF.out.next HO.out, B2.out⟩
            case measure => simp [intOf]; omega
          · rw [ho] at CM
            have HC := Lib.hid (acode_not HM.out (by rw [← Hlen.out]; have := H1.out; omega) (k := k) (by rw [← Hlen.out]; exact hlt) (by rw [E2.out]; exact ho))
            clear ho
            go_wp2_with fail
            refine CM.out.mono ?_
            rintro e w2 ⟨rfl, b2⟩
            have B2 := Lib.hid (thence WB.out (b2) (Nat.le_refl _))
            clear b2
            go_wp2_with fail
            go_ret
            exact ⟨by rw [HC.out]; rfl, B2.out⟩
        · obtain rfl : k = len := by omega
          have HC := Lib.hid (acode_ok (As := acs M) HM.out (by rw [← Hlen.out]; have := H1.out; omega) (fun j hj => HF.out j (by rw [← Hlen.out] at hj; exact hj)))
          go_wp2_with fail
          go_ret
          exact ⟨by rw [HC.out]; rfl, WB.out⟩
  · rw [hm] at CD
    have HC := Lib.hid (acode_bad (As := acs M) hm)
    clear hm
    go_enter Try.func23, Try.ntmps23
    go_wp2_with fail
    refine CD.out.mono ?_
    rintro e w1 ⟨rfl, b1⟩
    go_wp2_with fail
    go_ret
    exact ⟨by rw [HC.out]; rfl, b1⟩
end Go.Proofs.Ytnhfkfihlkbkfaa.PW
