/-
  ActsKept's walk: what lasts behind a crash is what lasted, or what was written there and waited.
-/
import Derived.Test.YtnhfkfihlkbkfaaActsLawMath2
import Derived.Test.YtnhfkfihlkbkfaaActsGreat
import Derived.Test.YtnhfkfihlkbkfaaActsAlive
namespace Go.Proofs.Ytnhfkfihlkbkfaa.PW
open Go.RowKit
open DK (Dv)
set_option linter.unusedVariables false
set_option linter.unusedSimpArgs false
set_option maxRecDepth 100000

theorem str_dec {l m : List Nat} (hl : Bytes l) (hm : Bytes m) : ((str l).toList == (str m).toList) = decide (l = m) := by
  by_cases h : l = m
  · rw [h]; simp
  · rw [str_ne hl hm h]; exact (decide_eq_false h).symm
/-- Is X what lasted, or what one of the first k writes of that place wrote? -/
def met (ws : List (Int × List Nat)) (o : Int) (X Y : List Nat) (k : Nat) : Bool := decide (X = Y) || (ws.take k).any fun p => decide (p.1 = o) && decide (DK.fl p.2 = X)
theorem met_zero (ws : List (Int × List Nat)) (o : Int) (X Y : List Nat) : met ws o X Y 0 = decide (X = Y) := by simp [met]
theorem met_next {ws : List (Int × List Nat)} {o : Int} {X Y : List Nat} {k : Nat} (hk : k < ws.length) : met ws o X Y (k + 1) = (met ws o X Y k || (decide ((ws.getD k (0, [])).1 = o) && decide (DK.fl (ws.getD k (0, [])).2 = X))) := by
  unfold met
  rw [List.take_succ_eq_append_getElem hk, List.any_append]
  have e : ws.getD k (0, []) = ws[k] := by simp [List.getD, hk]
  rw [e, ← Bool.or_assoc]
  simp
theorem met_all {ws : List (Int × List Nat)} {o : Int} {X Y : List Nat} (h : X = Y ∨ ∃ p ∈ ws, p.1 = o ∧ X = DK.fl p.2) : met ws o X Y ws.length = true := by
  unfold met
  rw [List.take_length, Bool.or_eq_true, decide_eq_true_eq, List.any_eq_true]
  rcases h with h | ⟨p, h1, h2, h3⟩
  · exact .inl h
  · exact .inr ⟨p, h1, by simp [h2, h3]⟩

set_option maxHeartbeats 2000000 in
theorem kept_no (a0 : Option Addr) (n0 c0 : Nat) (L : List Dn) (a1 : Option Addr) (n1 c1 : Nat) (ks : List Bool) (at_ o : Int) (w : World) (r0 : Rg kDn 0 w.heap.size w a0 n0 c0 L) (r1 : Rg kBool 0 w.heap.size w a1 n1 c1 ks) (h0 : AK.ccode (devs L) ks ≠ 0) :
    Calls Try.prog 7 #[.slice a0 n0 c0, .slice a1 n1 c1, .int .i64 at_, .int .i64 o] w fun e w' => e = .returned (.bool true) ∧ Below w.heap.size w w' := by
  have R0 := Lib.hid r0
  have R1 := Lib.hid r1
  have hs0 := r0.small'
  have hs1 := r1.small'
  clear r0 r1
  have CA := Lib.hid (alive5_any w)
  have CG : Hid (∀ w1, Below w.heap.size w w1 → Calls Try.prog 18 #[.slice a0 n0 c0] w1 (SomeB (n0 ≤ 30 ∧ ∀ D ∈ devs L, DK.great D = false) w1)) := fun w1 h => greatDs_any a0 n0 c0 L w1 (R0.out.here h)
  have CX : Hid (∀ w1, Below w.heap.size w w1 → Calls Try.prog 13 #[.slice a0 n0 c0, .slice a1 n1 c1] w1 (DsEnd w1 [] (AK.ccode (devs L) ks))) := fun w1 h => by
    have := crash_any a0 n0 c0 L a1 n1 c1 ks w1 (R0.out.here h) (R1.out.here h)
    rw [crashed_no h0] at this
    exact this
  have e0 : ((AK.ccode (devs L) ks : Int) == 0) = false := by rw [beq_eq_false_iff_ne]; omega
  have e1 : ((AK.ccode (devs L) ks : Int) != 0) = true := by rw [bne, e0]; rfl
  clear h0
  generalize AK.ccode (devs L) ks = q at *
  go_enter Try.func7, Try.ntmps7
  go_wp2_with fail
  refine CA.out.mono ?_
  rintro e w0 ⟨rfl, b0⟩
  have B0 := Lib.hid b0
  clear b0 CA
  go_wp2_with fail
  refine (CG.out _ B0.out).mono ?_
  rintro e w1 ⟨gb, rfl, hg1, b1⟩
  have B1 := Lib.hid (thence B0.out b1 (Nat.le_refl _))
  clear b1 B0 CG hg1
  cases gb with
  | true =>
    go_wp2_with fail
    go_ret
    exact ⟨rfl, B1.out⟩
  | false =>
  by_cases hk : 30000 < n1
  · have ik : (30000 : Int) < (n1 : Int) := by omega
    clear hk
    go_wp2_with fail
    go_ret
    exact ⟨rfl, B1.out⟩
  have ik : ¬ (30000 : Int) < (n1 : Int) := by omega
  clear hk
  go_wp2_with fail
  refine (CX.out _ B1.out).mono ?_
  rintro e w3 ⟨v3, rfl, ⟨a3, n3, c3, P, rfl, r3, d3, -⟩, b3⟩
  have B3 := Lib.hid (thence B1.out b3 (Nat.le_refl _))
  have R3 := Lib.hid (r3.mono (Nat.zero_le _) (Nat.le_refl _))
  obtain rfl : n3 = 0 := by
    have h1 := r3.long
    have h2 := devs_length P
    rw [d3] at h2
    simp at h2
    omega
  clear b3 r3 d3 CX
  have CW := Lib.hid (waits_any a3 0 c3 P w3 R3.out)
  generalize wcount (devs P) = wc at *
  generalize AK.dcode (devs P) = dc at *
  go_wp2_with fail
  refine CW.out.mono ?_
  rintro e w4 ⟨rfl, b4⟩
  have B4 := Lib.hid (thence B3.out b4 (Nat.le_refl _))
  have R4 := Lib.hid (R3.out.here b4)
  clear b4 CW
  have CY := Lib.hid (crash_any a3 0 c3 P none 0 0 [] w4 R4.out (rg_nil _ _ _ _))
  generalize AK.ccode (devs P) [] = cc at *
  go_wp2_with fail
  refine CY.out.mono ?_
  rintro e w5 ⟨v5, rfl, ⟨a5, n5, c5, P5, rfl, r5, d5, -⟩, b5⟩
  have B5 := Lib.hid (thence B4.out b5 (Nat.le_refl _))
  clear b5 r5 d5 CY
  go_wp2_with fail
  go_ret
  exact ⟨rfl, B5.out⟩

set_option maxHeartbeats 4000000 in
theorem kept_walk (a0 : Option Addr) (n0 c0 : Nat) (L : List Dn) (a1 : Option Addr) (n1 c1 : Nat) (ks : List Bool) (at_ o : Int) (w : World) (r0 : Rg kDn 0 w.heap.size w a0 n0 c0 L) (r1 : Rg kBool 0 w.heap.size w a1 n1 c1 ks) :
    Calls Try.prog 7 #[.slice a0 n0 c0, .slice a1 n1 c1, .int .i64 at_, .int .i64 o] w fun e w' => e = .returned (.bool true) ∧ Below w.heap.size w w' := by
  by_cases h0 : AK.ccode (devs L) ks = 0
  case neg => exact kept_no a0 n0 c0 L a1 n1 c1 ks at_ o w r0 r1 h0
  have R0 := Lib.hid r0
  have R1 := Lib.hid r1
  have hs0 := r0.small'
  have hs1 := r1.small'
  clear r0 r1
  have CA := Lib.hid (alive5_any w)
  have CG : Hid (∀ w1, Below w.heap.size w w1 → Calls Try.prog 18 #[.slice a0 n0 c0] w1 (SomeB (n0 ≤ 30 ∧ ∀ D ∈ devs L, DK.great D = false) w1)) := fun w1 h => greatDs_any a0 n0 c0 L w1 (R0.out.here h)
  have HCC := Lib.hid h0
  have AM := Lib.hid (again_math h0)
  have HMY := Lib.hid (ccode_zero h0).1
  have CX : Hid (∀ w1, Below w.heap.size w w1 → Calls Try.prog 13 #[.slice a0 n0 c0, .slice a1 n1 c1] w1 (DsEnd w1 (AK.crashed (devs L) ks AK.cut) 0)) := fun w1 h => by
    have := crash_any a0 n0 c0 L a1 n1 c1 ks w1 (R0.out.here h) (R1.out.here h)
    rw [h0] at this
    exact this
  have XAT : Hid (∀ m, m < (devs L).length → ∃ js, (AK.crashed (devs L) ks AK.cut).getD m Dv.nil = AK.cut ((devs L).getD m Dv.nil) js) := fun m hm => by
    rw [crashed_is h0]
    exact cuts_get _ ks hm
  clear h0
  generalize AK.crashed (devs L) ks AK.cut = X at *
  go_enter Try.func7, Try.ntmps7
  go_wp2_with fail
  refine CA.out.mono ?_
  rintro e w0 ⟨rfl, b0⟩
  have B0 := Lib.hid b0
  clear b0 CA
  go_wp2_with fail
  refine (CG.out _ B0.out).mono ?_
  rintro e w1 ⟨gb, rfl, hg1, b1⟩
  have B1 := Lib.hid (thence B0.out b1 (Nat.le_refl _))
  clear b1 B0 CG hg1
  cases gb with
  | true =>
    go_wp2_with fail
    go_ret
    exact ⟨rfl, B1.out⟩
  | false =>
  by_cases hk : 30000 < n1
  · have ik : (30000 : Int) < (n1 : Int) := by omega
    clear hk
    go_wp2_with fail
    go_ret
    exact ⟨rfl, B1.out⟩
  have ik : ¬ (30000 : Int) < (n1 : Int) := by omega
  clear hk
  go_wp2_with fail
  refine (CX.out _ B1.out).mono ?_
  rintro e w3 ⟨v3, rfl, ⟨a3, n3, c3, P, rfl, r3, d3, -⟩, b3⟩
  have B3 := Lib.hid (thence B1.out b3 (Nat.le_refl _))
  have R3 := Lib.hid (r3.mono (Nat.zero_le _) (Nat.le_refl _))
  have D3 := Lib.hid d3
  have HN3 : Hid (n3 = n0) := by
    have h1 := r3.long
    have h2 := devs_length P
    have h3 := AM.out.2.2.2.2.2
    rw [devs_length] at h3
    rw [d3] at h2
    have h4 := R0.out.long
    show _ = _
    omega
  clear b3 r3 d3 CX
  have CW : Hid (Calls Try.prog 28 #[.slice a3 n3 c3] w3 fun e w' => e = .returned (.tuple #[.int .i64 0, .int .i64 0]) ∧ Below w3.heap.size w3 w') := by
    have := waits_any a3 n3 c3 P w3 R3.out
    rw [D3.out, AM.out.2.1, AM.out.2.2.1] at this
    exact this
  go_wp2_with fail
  refine CW.out.mono ?_
  rintro e w4 ⟨rfl, b4⟩
  have B4 := Lib.hid (thence B3.out b4 (Nat.le_refl _))
  have R4 := Lib.hid (R3.out.here b4)
  clear b4 CW R3
  have CY : Hid (Calls Try.prog 13 #[.slice a3 n3 c3, .slice none 0 0] w4 (DsEnd w4 X 0)) := by
    have := crash_any a3 n3 c3 P none 0 0 [] w4 R4.out (rg_nil _ _ _ _)
    rw [D3.out, AM.out.2.2.2.1, AM.out.2.2.2.2.1] at this
    exact this
  go_wp2_with fail
  refine CY.out.mono ?_
  rintro e w5 ⟨v5, rfl, ⟨a5, n5, c5, P5, rfl, r5, d5, -⟩, b5⟩
  have B5 := Lib.hid (thence B4.out b5 (Nat.le_refl _))
  have R4 := Lib.hid (R4.out.here b5)
  have R5 := Lib.hid (r5.mono (Nat.zero_le _) (Nat.le_refl _))
  have D5 := Lib.hid d5
  clear b5 r5 d5 CY
  have CS : Hid (Calls Try.prog 16 #[.slice a3 n3 c3, .slice a5 n5 c5] w5 fun e w' => e = .returned (.bool true) ∧ Below w5.heap.size w5 w') := by
    have := refSameDs_any a3 n3 c3 P a5 n5 c5 P5 w5 R4.out R5.out (by rw [D3.out]; exact mays_fit AM.out.1) (by rw [D5.out]; exact mays_fit AM.out.1)
    rw [D3.out, D5.out, sameD_refl] at this
    exact this
  obtain rfl := HN3.out
  go_wp2_with fail
  refine CS.out.mono ?_
  rintro e w6 ⟨rfl, b6⟩
  have B6 := Lib.hid (thence B5.out b6 (Nat.le_refl _))
  have R4 := Lib.hid (R4.out.here b6)
  clear b6 CS R5 D5
  by_cases g1 : at_ < 0
  · go_wp2_with fail
    go_ret
    exact ⟨rfl, B6.out⟩
  obtain ⟨m, rfl⟩ := Int.eq_ofNat_of_zero_le (show 0 ≤ at_ by omega)
  by_cases g2 : n3 ≤ m
  · have i2 : (n3 : Int) ≤ (m : Int) := by omega
    clear g2
    go_wp2_with fail
    go_ret
    exact ⟨rfl, B6.out⟩
  have i2 : ¬ (n3 : Int) ≤ (m : Int) := by omega
  have i2' : (m : Int) < (n3 : Int) := by omega
  have hkL : m < L.length := by have := R0.out.long; omega
  obtain ⟨ab, off, xa, xn, xc, xa', xn', xc', D, e1, hbB, e2, dv⟩ := R0.out.dev m hkL
  subst e1
  have ED : (devs L).getD m Dv.nil = D := by rw [devs_getD, e2]
  have HMD : Hid (DK.may D = true) := by
    have := (AK.mays_iff.1 HMY.out).2.2 _ (AK.mem_get (L := devs L) (d := Dv.nil) (show m < (devs L).length by rw [devs_length]; exact hkL))
    rw [ED] at this
    exact this
  have CXD : Hid (∀ w', Below w.heap.size w w' → w'.cell? ⟨ab, off + m * 3, none⟩ = some (.slice xa xn xc) ∧ w'.cell? ⟨ab, off + m * 3 + 1, none⟩ = some (.slice xa' xn' xc') ∧ w'.cell? ⟨ab, off + m * 3 + 2, none⟩ = some (.bool D.dead)) := fun w' h =>
    (R0.out.below h (Nat.le_refl _)).dcell hkL e2
  obtain ⟨d0, d1, d2⟩ := CXD.out _ B6.out
  have DA : Hid (DevAt w.heap.size w xa xn xc xa' xn' xc' D) := dv.at
  have WT : Hid (∀ j, j < xn' → ∃ (zb zo : Nat) (z : Int) (za : Option Addr) (zn zc : Nat) (zl : List Nat), xa' = some ⟨zb, zo, none⟩ ∧ D.ws.getD j (0, []) = (z, zl) ∧ (∀ w', Below w.heap.size w w' → zb < w'.heap.size ∧ w'.cell? ⟨zb, zo + j * 2, none⟩ = some (.int .i64 z) ∧ w'.cell? ⟨zb, zo + j * 2 + 1, none⟩ = some (.slice za zn zc) ∧ Rd w'.heap.size w' za zn zc zl)) := fun j hj => by
    obtain ⟨H0, K0, rgH, rgK, lH, lK⟩ := dv
    have hjK : j < K0.length := by rw [← rgK.long]; exact hj
    obtain ⟨zb, zo, e0, _, hzb, hc, hin⟩ := rgK.at j hjK
    have hw0 : D.ws.getD j (0, []) = ((K0.getD j Wr.nil).n, (K0.getD j Wr.nil).h.l) := by rw [← lK, wlist_getD]
    refine ⟨zb, zo, (K0.getD j Wr.nil).n, (K0.getD j Wr.nil).h.a, (K0.getD j Wr.nil).h.len, (K0.getD j Wr.nil).h.cap, (K0.getD j Wr.nil).h.l, e0, hw0, fun w' h => ⟨Nat.lt_of_lt_of_le hzb h.size, ?_, ?_, ?_⟩⟩
    · rw [h.cell (p := ⟨zb, zo + j * 2, none⟩) hzb]
      exact hc 0 (show 0 < 2 by omega)
    · rw [h.cell (p := ⟨zb, zo + j * 2 + 1, none⟩) hzb]
      exact hc 1 (show 1 < 2 by omega)
    · exact (hin.1.below h).mono h.size
  have HXN := Lib.hid DA.out.long.1
  have HXN' := Lib.hid DA.out.long.2
  have hxs : xn ≤ 256 := by have h1 := HXN.out; have h2 := (DK.may_iff.1 HMD.out).2.1; omega
  have hxs' : xn' ≤ 1024 := by have h1 := HXN'.out; have h2 := (DK.may_iff.1 HMD.out).2.2.1; omega
  have HKL := Lib.hid hkL
  have HED := Lib.hid ED
  have HE2 := Lib.hid e2
  clear dv e2 ED hkL g1 g2
  rcases Bool.eq_false_or_eq_true D.dead with hdd | hdd
  · rw [hdd] at d2
    clear hdd
    go_wp2_with fail
    go_ret
    exact ⟨rfl, B6.out⟩
  have HDD := Lib.hid hdd
  rw [hdd] at d2
  clear hdd
  by_cases g3 : o < 0
  · go_wp2_with fail
    go_ret
    exact ⟨rfl, B6.out⟩
  by_cases g4 : (xn : Int) ≤ o
  · go_wp2_with fail
    go_ret
    exact ⟨rfl, B6.out⟩
  obtain ⟨p, rfl⟩ := Int.eq_ofNat_of_zero_le (show 0 ≤ o by omega)
  have hpx : p < xn := by omega
  have RCD : Hid (DK.rcode D (p : Int) = 0) := rcode_of HMD.out (DK.has_iff.2 ⟨by omega, by rw [← HXN.out]; omega⟩) HDD.out
  obtain ⟨js, hjs⟩ := XAT.out m (by rw [devs_length]; exact HKL.out)
  rw [HED.out] at hjs
  have RCE : Hid (DK.rcode (AK.cut D js) (p : Int) = 0) := by
    show _ = _
    rw [rcode_alike HMD.out (may_cut HMD.out js) (lay_length _ _) rfl]
    exact RCD.out
  have hkP : m < P.length := by
    have := AM.out.2.2.2.2.2
    rw [← D3.out, devs_length, devs_length] at this
    rw [this]; exact HKL.out
  obtain ⟨ab2, off2, ya, yn, yc, ya', yn', yc', E, e1', hbB2, e2', dv'⟩ := R4.out.dev m hkP
  subst e1'
  have EE : E = AK.cut D js := by rw [← hjs, ← D3.out, devs_getD, e2']
  obtain ⟨f0, f1, f2⟩ := R4.out.dcell hkP e2'
  have DB : Hid (DevAt w6.heap.size w6 ya yn yc ya' yn' yc' E) := dv'.at
  have HEE := Lib.hid EE
  have hed : E.dead = false := by rw [EE]; exact HDD.out
  rw [hed] at f2
  clear dv' e2' hjs
  have CL1 : Hid (Calls Try.prog 31 #[.agg #[.slice ya yn yc, .slice ya' yn' yc', .bool false], .int .i64 (p : Int)] w6 (TheTx w6 (DK.lies (AK.cut D js) (p : Int)) 0)) := by
    have := lasting_tx ya yn yc ya' yn' yc' E (p : Int) w6 DB.out
    rw [hed, ltext, HEE.out, RCE.out, if_pos rfl] at this
    exact this
  have CL2 : Hid (∀ w1, Below w.heap.size w w1 → Calls Try.prog 31 #[.agg #[.slice xa xn xc, .slice xa' xn' xc', .bool false], .int .i64 (p : Int)] w1 (TheTx w1 (DK.lies D (p : Int)) 0)) := fun w1 h => by
    have := lasting_tx xa xn xc xa' xn' xc' D (p : Int) w1 (DA.out.here h)
    rw [HDD.out, ltext, RCD.out, if_pos rfl] at this
    exact this
  have HCK := Lib.hid (cut_kept HMD.out js (o := (p : Int)) (by omega))
  have i4 : (p : Int) < (xn : Int) := by omega
  clear EE hed hkP g3 g4
  generalize DK.lies (AK.cut D js) (p : Int) = XB at *
  generalize DK.lies D (p : Int) = YB at *
  go_wp2_with fail
  refine CL1.out.mono ?_
  rintro e w7 ⟨ta, tn, tc, rfl, it7, b7⟩
  have IT7 := Lib.hid it7
  have B7 := Lib.hid (thence B6.out b7 (Nat.le_refl _))
  obtain ⟨d0, d1, d2⟩ := CXD.out _ B7.out
  rw [HDD.out] at d2
  clear it7 b7 CL1 f0 f1 f2
  go_wp2_with fail
  refine (CL2.out _ B7.out).mono ?_
  rintro e w8 ⟨ua, un, uc, rfl, it8, b8⟩
  have IT8 := Lib.hid it8
  have IT7 := Lib.hid (IT7.out.here b8)
  have B8 := Lib.hid (thence B7.out b8 (Nat.le_refl _))
  clear it8 b8 CL2 B7 d0 d1 d2
  have T7 := text_is _ _ _ _ _ IT7.out.rd
  have T8 := text_is _ _ _ _ _ IT8.out.rd
  have ES := str_dec IT7.out.rd.byt IT8.out.rd.byt
  have BX7 : Hid (Bytes XB) := IT7.out.rd.byt
  rw [← met_zero D.ws (p : Int) XB YB] at ES
  clear IT8 RCD RCE DB R4 XAT
  have HXN'2 : Hid (D.ws.length = xn') := HXN'.out.symm
  go_wp2_with fail
  go_loopw [20, 21] (fun f i wr => ∃ k : Nat, k ≤ xn' ∧ i = .int .i64 k ∧ f = .bool (met D.ws (p : Int) XB YB k) ∧ Below w8.heap.size w8 wr) (fun _ i _ => xn' - (intOf i).toNat)
  case atStart => exact ⟨0, Nat.zero_le _, rfl, rfl, Below.refl _ _⟩
  case round =>
    obtain ⟨k, hk, rfl, rfl, hbw⟩ := hrel
    have WB := Lib.hid (thence B8.out hbw (Nat.le_refl _))
    have WB8 := Lib.hid hbw
    have IT := Lib.hid (IT7.out.here hbw)
    obtain ⟨d0, d1, d2⟩ := CXD.out _ WB.out
    clear hbw
    by_cases hlt : k < xn'
    · obtain ⟨zb, zo, z, za, zn, zc, zl, e0, hw0, hz⟩ := WT.out k hlt
      subst e0
      obtain ⟨q0, q1, q2, q3⟩ := hz _ WB.out
      have HNX := Lib.hid (met_next (o := (p : Int)) (X := XB) (Y := YB) (show k < D.ws.length by rw [HXN'2.out]; exact hlt))
      rw [hw0] at HNX
      have HLT := Lib.hid hlt
      have RZ := Lib.hid q3
      have ik : (k : Int) < (xn' : Int) := by omega
      have BX := Lib.hid (Bx.new wr [.int .i64 z, .slice za zn zc] 64)
      have BA : Hid (Below wr.heap.size wr (wr.alloc (.cells #[.int .i64 z, .slice za zn zc] 64))) := (Below.refl _ _).alloc (Nat.le_refl _) _
      have HZN := Lib.hid q3.long
      have hzs : zn ≤ 9223372036854775807 := by have h1 := q3.fits; have h2 := q3.small; have h3 := q3.long; unfold maxLen at h2; omega
      have IT2 := Lib.hid (IT.out.here BA.out)
      have RZ2 := Lib.hid (RZ.out.here BA.out)
      clear hlt hz q3 hw0
      generalize hnx : met D.ws (p : Int) XB YB (k + 1) = nx at *
      generalize met D.ws (p : Int) XB YB k = fb at *
      have HN := Lib.hid hnx
      clear hnx
      by_cases hz0 : zn = 0
      · have hfl : DK.fl zl = List.replicate 128 0 := by have := HZN.out; simp [DK.fl, show zl.length = 0 by omega]
        have CF := Lib.hid (full5_rd 0 (by omega) (wr.alloc (.cells #[.int .i64 z, .slice za zn zc] 64)))
        subst hz0
        rw [← hfl] at CF
        clear hfl
        cases fb with
        | true =>
          go_wp2_with fail
          refine CF.out.mono ?_
          rintro e w9 ⟨g9, rfl, hg9, r9, b9⟩
          have B9 := Lib.hid (thence BA.out b9 (Nat.le_refl _))
          have BX9 := Lib.hid (BX.out.here b9)
          clear b9 r9 hg9
          obtain ⟨v0, v1⟩ := BX9.out.two
          go_wp2_with fail
          go_roundw
          case rel => exact ⟨k + 1, HLT.out, by go_num, by rw [HN.out, HNX.out]; rfl, thence WB8.out B9.out (Nat.le_refl _)⟩
          case measure => have := HLT.out; simp [intOf]; omega
        | false =>
          by_cases hzp : z = (p : Int)
          · subst hzp
            rw [show decide ((p : Int) = (p : Int)) = true by simp, Bool.true_and, Bool.false_or] at HNX
            go_wp2_with fail
            refine CF.out.mono ?_
            rintro e w9 ⟨g9, rfl, hg9, r9, b9⟩
            have B9 := Lib.hid (thence BA.out b9 (Nat.le_refl _))
            have BX9 := Lib.hid (BX.out.here b9)
            have TX := text_is _ _ _ _ _ (IT2.out.here b9).rd
            have TZ := text_is _ _ _ _ _ r9
            have ES := str_dec r9.byt BX7.out
            rw [← HNX.out] at ES
            clear b9 r9 hg9
            obtain ⟨v0, v1⟩ := BX9.out.two
            go_wp2_with fail
            go_roundw
            case rel => exact ⟨k + 1, HLT.out, by go_num, by rw [HN.out], thence WB8.out B9.out (Nat.le_refl _)⟩
            case measure => have := HLT.out; simp [intOf]; omega
          · have ez : (z == (p : Int)) = false := by rw [beq_eq_false_iff_ne]; exact hzp
            rw [decide_eq_false hzp, Bool.false_and, Bool.false_or] at HNX
            go_wp2_with fail
            refine CF.out.mono ?_
            rintro e w9 ⟨g9, rfl, hg9, r9, b9⟩
            have B9 := Lib.hid (thence BA.out b9 (Nat.le_refl _))
            have BX9 := Lib.hid (BX.out.here b9)
            clear b9 r9 hg9
            obtain ⟨v0, v1⟩ := BX9.out.two
            go_wp2_with fail
            go_roundw
            case rel => exact ⟨k + 1, HLT.out, by go_num, by rw [HN.out, HNX.out], thence WB8.out B9.out (Nat.le_refl _)⟩
            case measure => have := HLT.out; simp [intOf]; omega
      · have iz : ((zn : Int) == 0) = false := by rw [beq_eq_false_iff_ne]; omega
        have hfl : DK.fl zl = zl := DK.fl_ne (by have := HZN.out; omega)
        rw [hfl] at HNX
        clear hfl
        cases fb with
        | true =>
          go_wp2_with fail
          go_roundw
          case rel => exact ⟨k + 1, HLT.out, by go_num, by rw [HN.out, HNX.out]; rfl, thence WB8.out BA.out (Nat.le_refl _)⟩
          case measure => have := HLT.out; simp [intOf]; omega
        | false =>
          by_cases hzp : z = (p : Int)
          · subst hzp
            rw [show decide ((p : Int) = (p : Int)) = true by simp, Bool.true_and, Bool.false_or] at HNX
            have TX := text_is _ _ _ _ _ IT2.out.rd
            have TZ := text_is _ _ _ _ _ RZ2.out
            have ES := str_dec RZ2.out.byt BX7.out
            rw [← HNX.out] at ES
            go_wp2_with fail
            go_roundw
            case rel => exact ⟨k + 1, HLT.out, by go_num, by rw [HN.out], thence WB8.out BA.out (Nat.le_refl _)⟩
            case measure => have := HLT.out; simp [intOf]; omega
          · have ez : (z == (p : Int)) = false := by rw [beq_eq_false_iff_ne]; exact hzp
            rw [decide_eq_false hzp, Bool.false_and, Bool.false_or] at HNX
            go_wp2_with fail
            go_roundw
            case rel => exact ⟨k + 1, HLT.out, by go_num, by rw [HN.out, HNX.out], thence WB8.out BA.out (Nat.le_refl _)⟩
            case measure => have := HLT.out; simp [intOf]; omega
    · obtain rfl : k = xn' := by omega
      have HM := Lib.hid (met_all HCK.out)
      rw [HXN'2.out] at HM
      rw [HM.out]
      clear hlt
      go_wp2_with fail
      go_ret
      exact ⟨rfl, WB.out⟩
end Go.Proofs.Ytnhfkfihlkbkfaa.PW
