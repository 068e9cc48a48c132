/-
  Contracts of layer 5: devices behind the first so many acts; the document's own.
-/
import Derived.Test.YtnhfkfihlkbkfaaActsRefRun
namespace Go.Proofs.Ytnhfkfihlkbkfaa.PW
open Go.RowKit
open DK (Dv)
set_option linter.unusedVariables false
set_option linter.unusedSimpArgs false
set_option maxRecDepth 100000

def BehindRel (w : World) (len : Nat) (L : List Dn) (As : List AK.Ac) (v i : Value) (wr : World) : Prop :=
  ∃ (k : Nat) (N : List Dn) (ra : Option Addr) (rc : Nat), k ≤ len ∧ i = .int .i64 (k : Nat) ∧ v = .slice ra N.length rc ∧ AK.go AK.rdid (devs L) (As.take k) = some (devs N) ∧ Alike (devs L) (devs N) ∧ Rg kDn 0 wr.heap.size wr ra N.length rc N ∧ Below w.heap.size w wr
theorem go_none' {f : Dv → AK.Ac → Dv} {Ds : List Dv} {As : List AK.Ac} {k : Nat} (h : AK.go f Ds (As.take k) = none) : AK.go f Ds As = none := by
  have := go_none (f := f) (Ds := Ds) (As := As) (k := k) (m := max k As.length) (by omega) h
  rwa [List.take_of_length_le (by omega)] at this

set_option maxHeartbeats 2000000 in
theorem refBehind_any (b : Option Addr) (dn dc : Nat) (L : List Dn) (a : Option Addr) (len cap : Nat) (M : List Ax) (w : World) (hr : Rg kDn 0 w.heap.size w b dn dc L) (ha : Rg kAx 0 w.heap.size w a len cap M) (hm : AK.mays (devs L) = true) (hA : ∀ A ∈ acs M, AK.okA (devs L) A = true) :
    Calls Try.prog 52 #[.slice b dn dc, .slice a len cap] w (DoneDs w (AK.go AK.rdid (devs L) (acs M)).isNone ((AK.go AK.rdid (devs L) (acs M)).getD [])) := by
  have Hlen : Hid (len = (acs M).length) := by show _ = _; rw [acs_length]; exact ha.long
  have hs := ha.small'
  have hs' := hr.small'
  have Hdn := Lib.hid hr.long
  have Ha := Lib.hid ha
  have Hr := Lib.hid hr
  have HA := Lib.hid (Alike.refl hm)
  have HO := Lib.hid hA
  have h17 : L.length ≤ 17 := by have := (AK.mays_iff.1 hm).2.1; rw [devs_length] at this; exact this
  clear ha hr hm hA
  go_enter Try.func52, Try.ntmps52
  go_wp2_with fail
  go_loopw [6, 7] (fun v i wr => BehindRel w len L (acs M) v i wr) (fun _ i _ => len - (intOf i).toNat)
  case atStart => exact ⟨0, L, b, dc, Nat.zero_le _, rfl, by rw [Hdn.out], rfl, HA.out, by have := Hr.out; rw [Hdn.out] at this; exact this, Below.refl _ _⟩
  case round =>
    obtain ⟨k, N, ra, rc, hk, rfl, rfl, hgo, hal, hrg, hbw⟩ := hrel
    have WB := Lib.hid hbw
    have HGO := Lib.hid hgo
    have HAL := Lib.hid hal
    have RG := Lib.hid hrg
    have hN17 : N.length ≤ 17 := by have := hal.len; rw [devs_length, devs_length] at this; omega
    clear hbw hgo hal hrg
    by_cases hlt : k < len
    · have hkM : k < M.length := by have := Hlen.out; rw [acs_length] at this; omega
      obtain ⟨ab, off, d, kd, p, xa, xlen, xcap, xl, e1, hbB, e2, rd, hkd⟩ := Ha.out.act k hkM
      subst e1
      obtain ⟨c0, c1, c2, c3⟩ := (Ha.out.below WB.out (Nat.le_refl _)).acell hkM e2
      have E2 : Hid ((acs M).getD k AK.Ac.nil = ⟨d, kd, p, xl⟩) := by show _ = _; rw [acs_getD, e2]; rfl
      have hA : AK.okA (devs L) ⟨d, kd, p, xl⟩ = true := by rw [← E2.out]; exact HO.out _ (AK.mem_get (by rw [acs_length]; exact hkM))
      have hA' := hA
      unfold AK.okA at hA'
      rw [Bool.and_eq_true, AK.isOf_iff, devs_length] at hA'
      obtain ⟨⟨hd0, hd1⟩, hokK⟩ := hA'
      obtain ⟨q, rfl⟩ := Int.eq_ofNat_of_zero_le hd0
      have hq : q < L.length := by have hd2 : (q : Int) < (L.length : Int) := hd1; omega
      have hNl : N.length = L.length := by have := HAL.out.len; rw [devs_length, devs_length] at this; exact this
      rw [show ((q : Int)).toNat = q by simp] at hokK
      have hmy : DK.may ((devs N).getD q Dv.nil) = true := HAL.out.may q (by rw [devs_length]; exact hq)
      have hbs := HAL.out.bs q (by rw [devs_length]; exact hq)
      have hky : AK.okK ((devs N).getD q Dv.nil) ⟨(q : Int), kd, p, xl⟩ = true := by rw [okK_alike hbs]; exact hokK
      have hxl : xl.length ≤ 100000 := by
        have : xl.length = 0 ∨ xl.length = 128 := by
          by_cases h12 : kd = 1 ∨ kd = 2
          · rw [okK_w h12] at hky; simp only [Bool.and_eq_true, Bool.or_eq_true, decide_eq_true_eq] at hky; exact hky.2
          · by_cases h3 : kd = 3
            · subst h3; rw [okK_f] at hky; simp only [Bool.and_eq_true, decide_eq_true_eq] at hky; exact .inl hky.2
            · rw [okK_o (fun h => h12 (.inl h)) (fun h => h12 (.inr h)) h3] at hky; cases hky
        omega
      have CD := Lib.hid (refDone_any ra N.length rc N q p kd xa xlen xcap xl wr RG.out (by omega) (by omega) hmy ((rd.1.below WB.out).mono WB.out.size) hxl hky)
      have HN : Hid (AK.go AK.rdid (devs L) ((acs M).take (k + 1)) = if AK.errs ((devs N).getD q Dv.nil) ⟨(q : Int), kd, p, xl⟩ then none else some ((devs N).set q (AK.rdid ((devs N).getD q Dv.nil) ⟨(q : Int), kd, p, xl⟩))) := by
        show _ = _
        rw [go_next (by rw [acs_length]; exact hkM) HGO.out, E2.out]
        show (if AK.errs ((devs N).getD ((q : Int)).toNat Dv.nil) _ = true then none else some ((devs N).set ((q : Int)).toNat (AK.rdid ((devs N).getD ((q : Int)).toNat Dv.nil) _))) = _
        rw [show ((q : Int)).toNat = q by simp]
      have HDM : Hid (AK.errs ((devs N).getD q Dv.nil) ⟨(q : Int), kd, p, xl⟩ = false → Alike (devs L) ((devs N).set q (AK.rdid ((devs N).getD q Dv.nil) ⟨(q : Int), kd, p, xl⟩))) := fun he => by
        have := rdid_may hmy hky he
        exact HAL.out.put (by rw [devs_length]; exact hq) this.1 (this.2.trans hbs)
      clear e2 rd hA hokK hmy hbs hky hxl hd0 hd1 hq hNl hkM
      generalize (devs N).getD q Dv.nil = E at *
      cases he : AK.errs E ⟨(q : Int), kd, p, xl⟩ with
      | true =>
        have hz := go_none' (f := AK.rdid) (Ds := devs L) (As := acs M) (k := k + 1) (by rw [HN.out, he]; rfl)
        rw [he] at CD
        have HZ := Lib.hid hz
        clear hz he
        go_wp2_with fail
        refine CD.out.mono ?_
        rintro e w2 ⟨na, nl, nc, N2, rfl, -, -, b2⟩
        have B2 := Lib.hid (thence WB.out b2 (Nat.le_refl _))
        clear b2
        go_wp2_with fail
        go_ret2
        refine ⟨none, 0, 0, [], ?_, rg_nil _ _ _ _, ?_, B2.out⟩
        · rw [HZ.out]; rfl
        · rw [HZ.out]; intro h; cases h
      | false =>
        rw [he] at CD
        have HN' : Hid (AK.go AK.rdid (devs L) ((acs M).take (k + 1)) = some ((devs N).set q (AK.rdid E ⟨(q : Int), kd, p, xl⟩))) := by show _ = _; rw [HN.out, he]; rfl
        have HD' := Lib.hid (HDM.out he)
        clear he HN HDM
        generalize (devs N).set q (AK.rdid E ⟨(q : Int), kd, p, xl⟩) = Fs at *
        go_wp2_with fail
        refine CD.out.mono ?_
        rintro e w2 ⟨na, nl, nc, N2, rfl, rg2, hd2, b2⟩
        have B2 := Lib.hid (thence WB.out b2 (Nat.le_refl _))
        have hnl := rg2.long
        subst hnl
        have RG2 := Lib.hid rg2
        have HF2 := Lib.hid (hd2 rfl)
        clear b2 rg2 hd2
        go_wp2_with fail
        go_roundw
        case rel => exact ⟨k + 1, N2, na, nc, by omega, by go_num, rfl, by rw [HF2.out]; exact HN'.out, by rw [HF2.out]; exact HD'.out, RG2.out, B2.out⟩
        case measure => simp [intOf]; omega
    · have hkl : k = len := by omega
      have hg : AK.go AK.rdid (devs L) (acs M) = some (devs N) := by
        have := HGO.out
        rw [List.take_of_length_le (by rw [← Hlen.out]; omega)] at this
        exact this
      have HG := Lib.hid hg
      clear hg
      go_wp2_with fail
      go_ret2
      refine ⟨ra, _, rc, N, ?_, RG.out, ?_, WB.out⟩
      · rw [HG.out]; rfl
      · rw [HG.out]; intro _; rfl

/-- What a call answers that hands back devices to be read, and an error's number. -/
def RefDs (w : World) (Ds : List Dv) (c : Nat) (e : Ending) (w' : World) : Prop :=
  ∃ a len cap M, e = .returned (.tuple #[.slice a len cap, .int .i64 (c : Int)]) ∧ Rg kDn 0 w'.heap.size w' a len cap M ∧ devs M = Ds ∧ Below w.heap.size w w'
theorem RefDs.no (w w' : World) (c : Nat) (h : Below w.heap.size w w') : RefDs w [] c (.returned (.tuple #[.slice none 0 0, .int .i64 (c : Int)])) w' := ⟨none, 0, 0, [], rfl, rg_nil _ _ _ _, rfl, h⟩

set_option maxHeartbeats 2000000 in
theorem refRun_any (b : Option Addr) (dn dc : Nat) (L : List Dn) (a : Option Addr) (len cap : Nat) (M : List Ax) (n : Int) (w : World) (hr : Rg kDn 0 w.heap.size w b dn dc L) (ha : Rg kAx 0 w.heap.size w a len cap M) :
    Calls Try.prog 22 #[.slice b dn dc, .slice a len cap, .int .i64 n] w (RefDs w (AK.ran (devs L) (acs M) n AK.rdid) (AK.ncode (devs L) (acs M) n AK.rdid)) := by
  have CK := Lib.hid (refActsCheck_any a len cap M b dn dc L w ha hr)
  have Hlen : Hid (len = (acs M).length) := by show _ = _; rw [acs_length]; exact ha.long
  have hs := ha.small'
  have Ha := Lib.hid ha
  have Hr := Lib.hid hr
  clear ha hr
  by_cases h0 : AK.acode (devs L) (acs M) = 0
  case neg =>
    have e0 : ((AK.acode (devs L) (acs M) : Int) == 0) = false := by rw [beq_eq_false_iff_ne]; omega
    have e1 : ((AK.acode (devs L) (acs M) : Int) != 0) = true := by rw [bne, e0]; rfl
    have HC := Lib.hid (ncode_c (n := n) (f := AK.rdid) h0)
    have HR := Lib.hid (ran_no (As := acs M) (n := n) (f := AK.rdid) (by rw [HC.out]; exact h0))
    rw [HC.out, HR.out]
    clear h0
    generalize AK.acode (devs L) (acs M) = q at *
    go_enter Try.func22, Try.ntmps22
    go_wp2_with fail
    refine CK.out.mono ?_
    rintro e w1 ⟨rfl, b1⟩
    go_wp2_with fail
    go_ret2
    exact RefDs.no _ _ _ b1
  rw [h0] at CK
  by_cases hn : n < 0
  · have HC := Lib.hid (ncode_n (As := acs M) (f := AK.rdid) h0 (.inl hn))
    have HR := Lib.hid (ran_no (As := acs M) (n := n) (f := AK.rdid) (by rw [HC.out]; omega))
    rw [HC.out, HR.out]
    clear h0
    go_enter Try.func22, Try.ntmps22
    go_wp2_with fail
    refine CK.out.mono ?_
    rintro e w1 ⟨rfl, b1⟩
    go_wp2_with fail
    go_ret2
    exact RefDs.no _ _ _ b1
  by_cases hn2 : (len : Int) < n
  · have HC := Lib.hid (ncode_n (As := acs M) (f := AK.rdid) h0 (.inr (by rw [← Hlen.out]; exact hn2)))
    have HR := Lib.hid (ran_no (As := acs M) (n := n) (f := AK.rdid) (by rw [HC.out]; omega))
    rw [HC.out, HR.out]
    clear h0
    go_enter Try.func22, Try.ntmps22
    go_wp2_with fail
    refine CK.out.mono ?_
    rintro e w1 ⟨rfl, b1⟩
    go_wp2_with fail
    go_ret2
    exact RefDs.no _ _ _ b1
  · obtain ⟨m, rfl⟩ := Int.eq_ofNat_of_zero_le (show 0 ≤ n by omega)
    obtain ⟨hmy, hl, hok⟩ := AK.acode_zero h0
    have hc := ncode_m (f := AK.rdid) h0 (m := m) (by rw [← Hlen.out]; omega)
    have hm1 : m ≤ len := by omega
    have hcap : len ≤ cap := by have := Ha.out.fits; have := Ha.out.long; omega
    have hcap2 := Ha.out.small
    unfold maxLen at hcap2
    have hi2 : (m : Int) ≤ (cap : Int) := by omega
    have hi1 : (m : Int) ≤ (len : Int) := by omega
    have CB : Hid (∀ w1, Below w.heap.size w w1 → Calls Try.prog 52 #[.slice b dn dc, .slice a m cap] w1 (DoneDs w1 (AK.go AK.rdid (devs L) ((acs M).take m)).isNone ((AK.go AK.rdid (devs L) ((acs M).take m)).getD []))) := fun w1 h => by
      have := refBehind_any b dn dc L a m cap (M.take m) w1 (Hr.out.here h) ((Ha.out.here h).take m hm1) hmy (fun A hA => hok A (by rw [acs_take] at hA; exact List.mem_of_mem_take hA))
      rw [acs_take] at this
      exact this
    cases hg : AK.go AK.rdid (devs L) ((acs M).take m) with
    | none =>
      rw [hg] at CB
      have e9 : AK.ncode (devs L) (acs M) (m : Int) AK.rdid = 9 := by rw [hc, hg]; rfl
      have er := ran_no (As := acs M) (n := (m : Int)) (f := AK.rdid) (by rw [e9]; omega)
      rw [e9, er]
      clear hn hn2 h0 hok hmy hg e9 er hc
      go_enter Try.func22, Try.ntmps22
      go_wp2_with fail
      refine CK.out.mono ?_
      rintro e w1 ⟨rfl, b1⟩
      have B1 := Lib.hid b1
      clear b1
      go_wp2_with fail
      refine (CB.out _ B1.out).mono ?_
      rintro e w2 ⟨na, nl, nc, N2, rfl, rg2, hd2, b2⟩
      have B2 := Lib.hid (thence B1.out b2 (Nat.le_refl _))
      clear b2 rg2 hd2
      go_wp2_with fail
      go_ret2
      exact RefDs.no _ _ _ B2.out
    | some Xs =>
      rw [hg] at CB
      have e9 : AK.ncode (devs L) (acs M) (m : Int) AK.rdid = 0 := by rw [hc, hg]; rfl
      have er : AK.ran (devs L) (acs M) (m : Int) AK.rdid = Xs := by simp [AK.ran, e9, hg]
      rw [e9, er]
      clear hn hn2 h0 hok hmy hg e9 er hc
      go_enter Try.func22, Try.ntmps22
      go_wp2_with fail
      refine CK.out.mono ?_
      rintro e w1 ⟨rfl, b1⟩
      have B1 := Lib.hid b1
      clear b1
      go_wp2_with fail
      refine (CB.out _ B1.out).mono ?_
      rintro e w2 ⟨na, nl, nc, N2, rfl, rg2, hd2, b2⟩
      have B2 := Lib.hid (thence B1.out b2 (Nat.le_refl _))
      have RG2 := Lib.hid rg2
      have HD2 := Lib.hid (hd2 rfl)
      clear b2 rg2 hd2
      go_wp2_with fail
      go_ret2
      exact ⟨na, nl, nc, N2, rfl, RG2.out, HD2.out, B2.out⟩
end Go.Proofs.Ytnhfkfihlkbkfaa.PW
