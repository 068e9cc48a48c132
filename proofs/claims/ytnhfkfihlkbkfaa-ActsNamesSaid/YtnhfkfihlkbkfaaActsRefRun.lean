/-
  Contracts of layer 5: devices behind acts; the document's own.
-/
import Derived.Test.YtnhfkfihlkbkfaaActsLawMath
import Derived.Test.YtnhfkfihlkbkfaaActsRefTwin
import Derived.Test.YtnhfkfihlkbkfaaDiskSure
import Derived.Test.YtnhfkfihlkbkfaaDiskFlush
namespace Go.Proofs.Ytnhfkfihlkbkfaa.PW
open Go.RowKit
open DK (Dv)
set_option linter.unusedVariables false
set_option linter.unusedSimpArgs false
set_option maxRecDepth 100000

/-- Boxes laid one behind the other. -/
theorem boxes2 (w : World) (A B : List Value) (tA tB : TypeId) :
    Bx ((w.alloc (.cells A.toArray tA)).alloc (.cells B.toArray tB)) w.heap.size A ∧ Bx ((w.alloc (.cells A.toArray tA)).alloc (.cells B.toArray tB)) (w.heap.size + 1) B ∧
    Below w.heap.size w ((w.alloc (.cells A.toArray tA)).alloc (.cells B.toArray tB)) := by
  have h1 := Bx.new w A tA
  have h2 := Bx.new (w.alloc (.cells A.toArray tA)) B tB
  simp only [World.size_alloc] at h2
  exact ⟨h1.alloc _, h2, ((Below.refl _ _).alloc (Nat.le_refl _) _).alloc (by simp) _⟩

/-- What a call hands back that makes a list of devices, or tells that too many writes wait. -/
def DoneDs (w : World) (er : Bool) (Ds : List Dv) (e : Ending) (w' : World) : Prop :=
  ∃ a len cap M, e = .returned (.tuple #[.slice a len cap, .bool (!er)]) ∧ Rg kDn 0 w'.heap.size w' a len cap M ∧ (er = false → devs M = Ds) ∧ Below w.heap.size w w'
theorem DoneDs.no (w w' : World) (Ds : List Dv) (h : Below w.heap.size w w') : DoneDs w true Ds (.returned (.tuple #[.slice none 0 0, .bool false])) w' := ⟨none, 0, 0, [], rfl, rg_nil _ _ _ _, (fun h => by cases h), h⟩

set_option maxHeartbeats 4000000 in
theorem refDone_any (b : Option Addr) (dn dc : Nat) (L : List Dn) (q : Nat) (p : Int) (kd : Nat) (xa : Option Addr) (xlen xcap : Nat) (xl : List Nat) (w : World) (hr : Rg kDn 0 w.heap.size w b dn dc L) (hq : q < L.length) (hL : L.length ≤ 1000)
    (hm : DK.may ((devs L).getD q Dv.nil) = true) (hx : Rd w.heap.size w xa xlen xcap xl) (hl : xl.length ≤ 100000) (hk : AK.okK ((devs L).getD q Dv.nil) ⟨(q : Int), kd, p, xl⟩ = true) :
    Calls Try.prog 74 #[.slice b dn dc, .agg #[.int .i64 (q : Int), .int .u8 (kd : Int), .int .i64 p, .slice xa xlen xcap]] w
      (DoneDs w (AK.errs ((devs L).getD q Dv.nil) ⟨(q : Int), kd, p, xl⟩) ((devs L).set q (AK.rdid ((devs L).getD q Dv.nil) ⟨(q : Int), kd, p, xl⟩))) := by
  have Hlen := Lib.hid hr.long
  have hs := hr.small'
  obtain ⟨ab, off, ya, yn, yc, ya', yn', yc', D, e1, hbB, e2, dv⟩ := hr.dev q hq
  subst e1
  have ED : (devs L).getD q Dv.nil = D := by rw [devs_getD, e2]
  rw [ED] at hm hk ⊢
  have CX : Hid (∀ w', Below w.heap.size w w' → w'.cell? ⟨ab, off + q * 3, none⟩ = some (.slice ya yn yc) ∧ w'.cell? ⟨ab, off + q * 3 + 1, none⟩ = some (.slice ya' yn' yc') ∧ w'.cell? ⟨ab, off + q * 3 + 2, none⟩ = some (.bool D.dead)) := fun w' h =>
    (hr.below h (Nat.le_refl _)).dcell hq e2
  have Hr := Lib.hid hr
  have Hx := Lib.hid hx
  have DV := Lib.hid dv
  have HQ := Lib.hid hq
  have HM := Lib.hid hm
  have HK := Lib.hid hk
  have HL := Lib.hid hl
  have iq : (q : Int) < (dn : Int) := by have := Hlen.out; omega
  clear hr hx dv hm hk hl e2 ED
  obtain ⟨dd, hdd⟩ : ∃ dd, dd = D.dead := ⟨_, rfl⟩
  have HDD := Lib.hid hdd
  rw [← hdd] at CX
  obtain ⟨c0, c1, c2⟩ := CX.out w (Below.refl _ _)
  cases dd with
  | true =>
    have hE : AK.errs D ⟨(q : Int), kd, p, xl⟩ = false := by simp [AK.errs, ← hdd]
    have hD : AK.rdid D ⟨(q : Int), kd, p, xl⟩ = D := by simp [AK.rdid, ← hdd]
    rw [hE, hD]
    clear hE hD hdd
    obtain ⟨bA, bB, al⟩ := boxes2 w [.int .i64 (q : Int), .int .u8 (kd : Int), .int .i64 p, .slice xa xlen xcap] [.slice ya yn yc, .slice ya' yn' yc', .bool true] 33 37
    go_enter Try.func74, Try.ntmps74
    have BA2 := Lib.hid bA
    have BB2 := Lib.hid bB
    have B02 := Lib.hid al
    clear bA bB al
    have HX2 : Hid (Dn.inn 0 w.heap.size _ ⟨ya, yn, yc, ya', yn', yc', D⟩) := DevI.keep DV.out (.ofBelow B02.out (Nat.le_refl _))
    have HHI := Lib.hid B02.out.size
    obtain ⟨v7, w7, r7, G7, b7⟩ := GrowK.first typed_dn (Hr.out.here B02.out) (by omega)
    obtain ⟨g, gc, rfl, hg1, hg2, hg3, hg4⟩ := G7.form (by have := HQ.out; omega)
    have R7 := Lib.hid r7
    have GG7 := Lib.hid G7
    have b7' := Lib.hid b7
    have B07 : Hid (Below w.heap.size w w7) := thence B02.out b7 (Nat.le_refl _)
    obtain ⟨a0, -⟩ : w7.cell? ⟨w.heap.size, 0, none⟩ = some (.int .i64 (q : Int)) ∧ True := ⟨(BA2.out.here b7).cell 0, trivial⟩
    obtain ⟨z0, z1, z2⟩ := (BB2.out.here b7).three
    have k0 := GG7.out.dcells HQ.out (j := 0) (show 0 < 3 by omega)
    have k1 := GG7.out.dcells HQ.out (j := 1) (show 1 < 3 by omega)
    have k2 := GG7.out.dcells HQ.out (j := 2) (show 2 < 3 by omega)
    obtain ⟨k0, f0⟩ : w7.cell? ⟨g, q * 3, none⟩ = some (.slice (L.getD q Dn.nil).a (L.getD q Dn.nil).n (L.getD q Dn.nil).c) ∧ w7.frozen? ⟨g, q * 3, none⟩ = false := k0
    obtain ⟨k1, f1⟩ : w7.cell? ⟨g, q * 3 + 1, none⟩ = some (.slice (L.getD q Dn.nil).a' (L.getD q Dn.nil).n' (L.getD q Dn.nil).c') ∧ w7.frozen? ⟨g, q * 3 + 1, none⟩ = false := k1
    obtain ⟨k2, f2⟩ : w7.cell? ⟨g, q * 3 + 2, none⟩ = some (.bool (L.getD q Dn.nil).D.dead) ∧ w7.frozen? ⟨g, q * 3 + 2, none⟩ = false := k2
    have iqL : (q : Int) < (L.length : Int) := by have := HQ.out; omega
    have pp := Lib.hid (GG7.out.put3 rfl HQ.out (x := ⟨ya, yn, yc, ya', yn', yc', D⟩) (u := .slice ya yn yc) (v := .slice ya' yn' yc') (z := .bool true) (by rw [HDD.out]; rfl) (lo := 0) (hi := w.heap.size) (Nat.le_trans HHI.out b7.size) (kDn.keep HX2.out (.ofBelow b7 HHI.out)) (.inr (Nat.le_trans HHI.out hg1)))
    have BF := Lib.hid (below_put (g := g) (k := q) B07.out (Nat.le_trans B02.out.size hg1) (.slice ya yn yc) (.slice ya' yn' yc') (.bool true))
    clear r7 G7 b7 hg1 hg2
    go_wp2_with (at_builtin; refine wpList_append_run rfl _ _ _ _ rfl R7.out ?_)
    go_ret2
    obtain ⟨ra, rc, ee, rg⟩ := pp.out.rg
    injection ee with ee1 ee2 ee3
    subst ee1 ee3
    rw [List.length_set] at rg
    exact ⟨_, _, _, _, rfl, rg, fun _ => by rw [devs_set], BF.out⟩
  | false =>
    have k123 : kd = 1 ∨ kd = 2 ∨ kd = 3 := by
      by_cases h1 : kd = 1
      · exact .inl h1
      by_cases h2 : kd = 2
      · exact .inr (.inl h2)
      by_cases h3 : kd = 3
      · exact .inr (.inr h3)
      have := HK.out
      rw [okK_o h1 h2 h3] at this; cases this
    rcases k123 with rfl | rfl | rfl
    · by_cases h4 : 1024 ≤ yn'
      · have hE : AK.errs D ⟨(q : Int), 1, p, xl⟩ = true := by simp [AK.errs, ← hdd, ← DV.out.at.long.2, h4]
        rw [hE]
        have i4 : (1024 : Int) ≤ (yn' : Int) := by omega
        clear hE hdd
        show Calls Try.prog 74 #[.slice (some ⟨ab, off, none⟩) dn dc, .agg #[.int .i64 (q : Int), .int .u8 1, .int .i64 p, .slice xa xlen xcap]] w _
        obtain ⟨bA, bB, al⟩ := boxes2 w [.int .i64 (q : Int), .int .u8 1, .int .i64 p, .slice xa xlen xcap] [.slice ya yn yc, .slice ya' yn' yc', .bool false] 33 37
        have AL := Lib.hid al
        clear bA bB al
        go_enter Try.func74, Try.ntmps74
        go_wp2_with fail
        go_ret2
        exact DoneDs.no _ _ _ AL.out
      · have hE : AK.errs D ⟨(q : Int), 1, p, xl⟩ = false := by simp [AK.errs, ← hdd, ← DV.out.at.long.2]; omega
        have hD : AK.rdid D ⟨(q : Int), 1, p, xl⟩ = rput D p xl := by simp [AK.rdid, ← hdd]
        rw [hE, hD]
        have i4 : ¬ (1024 : Int) ≤ (yn' : Int) := by omega
        clear hE hD hdd h4
        show Calls Try.prog 74 #[.slice (some ⟨ab, off, none⟩) dn dc, .agg #[.int .i64 (q : Int), .int .u8 1, .int .i64 p, .slice xa xlen xcap]] w _
        obtain ⟨bA, bB, al⟩ := boxes2 w [.int .i64 (q : Int), .int .u8 1, .int .i64 p, .slice xa xlen xcap] [.slice ya yn yc, .slice ya' yn' yc', .bool false] 33 37
        have CC : Hid (∀ w1, Below w.heap.size w w1 → Calls Try.prog 85 #[.agg #[.slice ya yn yc, .slice ya' yn' yc', .bool false], .int .i64 p, .slice xa xlen xcap] w1 (TheDev w1 (rput D p xl))) := fun w1 h => by
          have := refPut_any ya yn yc ya' yn' yc' D p xa xlen xcap xl w1 (DV.out.at.here h) (fit_may HM.out) (Hx.out.here h) HL.out
          rw [← HDD.out] at this; exact this
        have BA1 := Lib.hid bA
        have BB1 := Lib.hid bB
        have AL := Lib.hid al
        clear bA bB al
        go_enter Try.func74, Try.ntmps74
        go_wp2_with fail
        refine (CC.out _ AL.out).mono ?_
        rintro e w2 ⟨v2, rfl, od, b2⟩
        obtain ⟨za, zn, zc, za', zn', zc', rfl, -⟩ := od.at
        have lt2 := BB1.out.lt
        have bb2 := BB1.out.here b2
        obtain ⟨q0, q1, q2⟩ := bb2.three
        have g0 := bb2.frozen 0
        have g1 := bb2.frozen 1
        have g2 := bb2.frozen 2
        have od3 := ((od.setCell ⟨w.heap.size + 1, 0, none⟩ lt2 (.slice za zn zc)).setCell ⟨w.heap.size + 1, 1, none⟩ lt2 (.slice za' zn' zc')).setCell ⟨w.heap.size + 1, 2, none⟩ lt2 (.bool (rput D p xl).dead)
        have BB2 := Lib.hid (((bb2.set 0 (.slice za zn zc)).set 1 (.slice za' zn' zc')).set 2 (.bool (rput D p xl).dead))
        have BA2 := Lib.hid ((((BA1.out.here b2).other ⟨w.heap.size + 1, 0, none⟩ (by simp) (.slice za zn zc)).other ⟨w.heap.size + 1, 1, none⟩ (by simp) (.slice za' zn' zc')).other ⟨w.heap.size + 1, 2, none⟩ (by simp) (.bool (rput D p xl).dead))
        have B02 := Lib.hid ((((thence AL.out b2 (Nat.le_refl _)).setCell (p := ⟨w.heap.size + 1, 0, none⟩) (by show w.heap.size ≤ w.heap.size + 1; omega) (.slice za zn zc)).setCell (p := ⟨w.heap.size + 1, 1, none⟩) (by show w.heap.size ≤ w.heap.size + 1; omega) (.slice za' zn' zc')).setCell (p := ⟨w.heap.size + 1, 2, none⟩) (by show w.heap.size ≤ w.heap.size + 1; omega) (.bool (rput D p xl).dead))
        have HX2 : Hid (Dn.inn 0 _ _ ⟨za, zn, zc, za', zn', zc', rput D p xl⟩) := DevI.mono od3.inn.1 (Nat.zero_le _) (Nat.le_refl _)
        have HHI : Hid ((((w2.setCell ⟨w.heap.size + 1, 0, none⟩ (.slice za zn zc)).setCell ⟨w.heap.size + 1, 1, none⟩ (.slice za' zn' zc')).setCell ⟨w.heap.size + 1, 2, none⟩ (.bool (rput D p xl).dead)).heap.size ≤ (((w2.setCell ⟨w.heap.size + 1, 0, none⟩ (.slice za zn zc)).setCell ⟨w.heap.size + 1, 1, none⟩ (.slice za' zn' zc')).setCell ⟨w.heap.size + 1, 2, none⟩ (.bool (rput D p xl).dead)).heap.size) := Nat.le_refl _
        clear od od3 b2 bb2 lt2
        obtain ⟨v7, w7, r7, G7, b7⟩ := GrowK.first typed_dn (Hr.out.here B02.out) (by omega)
        obtain ⟨g, gc, rfl, hg1, hg2, hg3, hg4⟩ := G7.form (by have := HQ.out; omega)
        have R7 := Lib.hid r7
        have GG7 := Lib.hid G7
        have b7' := Lib.hid b7
        have B07 : Hid (Below w.heap.size w w7) := thence B02.out b7 (Nat.le_refl _)
        obtain ⟨a0, -⟩ : w7.cell? ⟨w.heap.size, 0, none⟩ = some (.int .i64 (q : Int)) ∧ True := ⟨(BA2.out.here b7).cell 0, trivial⟩
        obtain ⟨z0, z1, z2⟩ := (BB2.out.here b7).three
        have k0 := GG7.out.dcells HQ.out (j := 0) (show 0 < 3 by omega)
        have k1 := GG7.out.dcells HQ.out (j := 1) (show 1 < 3 by omega)
        have k2 := GG7.out.dcells HQ.out (j := 2) (show 2 < 3 by omega)
        obtain ⟨k0, f0⟩ : w7.cell? ⟨g, q * 3, none⟩ = some (.slice (L.getD q Dn.nil).a (L.getD q Dn.nil).n (L.getD q Dn.nil).c) ∧ w7.frozen? ⟨g, q * 3, none⟩ = false := k0
        obtain ⟨k1, f1⟩ : w7.cell? ⟨g, q * 3 + 1, none⟩ = some (.slice (L.getD q Dn.nil).a' (L.getD q Dn.nil).n' (L.getD q Dn.nil).c') ∧ w7.frozen? ⟨g, q * 3 + 1, none⟩ = false := k1
        obtain ⟨k2, f2⟩ : w7.cell? ⟨g, q * 3 + 2, none⟩ = some (.bool (L.getD q Dn.nil).D.dead) ∧ w7.frozen? ⟨g, q * 3 + 2, none⟩ = false := k2
        have iqL : (q : Int) < (L.length : Int) := by have := HQ.out; omega
        have pp := Lib.hid (GG7.out.put3 rfl HQ.out (x := ⟨za, zn, zc, za', zn', zc', rput D p xl⟩) (u := .slice za zn zc) (v := .slice za' zn' zc') (z := .bool (rput D p xl).dead) rfl (lo := 0) (hi := (((w2.setCell ⟨w.heap.size + 1, 0, none⟩ (.slice za zn zc)).setCell ⟨w.heap.size + 1, 1, none⟩ (.slice za' zn' zc')).setCell ⟨w.heap.size + 1, 2, none⟩ (.bool (rput D p xl).dead)).heap.size) (Nat.le_trans HHI.out b7.size) (kDn.keep HX2.out (.ofBelow b7 HHI.out)) (.inr (Nat.le_trans HHI.out hg1)))
        have BF := Lib.hid (below_put (g := g) (k := q) B07.out (Nat.le_trans B02.out.size hg1) (.slice za zn zc) (.slice za' zn' zc') (.bool (rput D p xl).dead))
        clear r7 G7 b7 hg1 hg2
        go_wp2_with (at_builtin; refine wpList_append_run rfl _ _ _ _ rfl R7.out ?_)
        go_ret2
        obtain ⟨ra, rc, ee, rg⟩ := pp.out.rg
        injection ee with ee1 ee2 ee3
        subst ee1 ee3
        rw [List.length_set] at rg
        exact ⟨_, _, _, _, rfl, rg, fun _ => by rw [devs_set], BF.out⟩
    · have hE : AK.errs D ⟨(q : Int), 2, p, xl⟩ = false := by simp [AK.errs]
      have hD : AK.rdid D ⟨(q : Int), 2, p, xl⟩ = rsure D p xl := by simp [AK.rdid, ← hdd]
      rw [hE, hD]
      have hhas : DK.has D p = true := by
        have := HK.out
        rw [okK_w (.inr rfl)] at this
        simp only [Bool.and_eq_true, decide_eq_true_eq] at this
        exact DK.has_iff.2 this.1
      have HH := Lib.hid hhas
      clear hE hD hdd hhas
      show Calls Try.prog 74 #[.slice (some ⟨ab, off, none⟩) dn dc, .agg #[.int .i64 (q : Int), .int .u8 2, .int .i64 p, .slice xa xlen xcap]] w _
      obtain ⟨bA, bB, al⟩ := boxes2 w [.int .i64 (q : Int), .int .u8 2, .int .i64 p, .slice xa xlen xcap] [.slice ya yn yc, .slice ya' yn' yc', .bool false] 33 37
      have CC : Hid (∀ w1, Below w.heap.size w w1 → Calls Try.prog 86 #[.agg #[.slice ya yn yc, .slice ya' yn' yc', .bool false], .int .i64 p, .slice xa xlen xcap] w1 (TheDev w1 (rsure D p xl))) := fun w1 h => by
        have := refSure_any ya yn yc ya' yn' yc' D p xa xlen xcap xl w1 (DV.out.at.here h) (fit_may HM.out) (Hx.out.here h) HL.out HH.out
        rw [← HDD.out] at this; exact this
      have BA1 := Lib.hid bA
      have BB1 := Lib.hid bB
      have AL := Lib.hid al
      clear bA bB al
      go_enter Try.func74, Try.ntmps74
      go_wp2_with fail
      refine (CC.out _ AL.out).mono ?_
      rintro e w2 ⟨v2, rfl, od, b2⟩
      obtain ⟨za, zn, zc, za', zn', zc', rfl, -⟩ := od.at
      have lt2 := BB1.out.lt
      have bb2 := BB1.out.here b2
      obtain ⟨q0, q1, q2⟩ := bb2.three
      have g0 := bb2.frozen 0
      have g1 := bb2.frozen 1
      have g2 := bb2.frozen 2
      have od3 := ((od.setCell ⟨w.heap.size + 1, 0, none⟩ lt2 (.slice za zn zc)).setCell ⟨w.heap.size + 1, 1, none⟩ lt2 (.slice za' zn' zc')).setCell ⟨w.heap.size + 1, 2, none⟩ lt2 (.bool (rsure D p xl).dead)
      have BB2 := Lib.hid (((bb2.set 0 (.slice za zn zc)).set 1 (.slice za' zn' zc')).set 2 (.bool (rsure D p xl).dead))
      have BA2 := Lib.hid ((((BA1.out.here b2).other ⟨w.heap.size + 1, 0, none⟩ (by simp) (.slice za zn zc)).other ⟨w.heap.size + 1, 1, none⟩ (by simp) (.slice za' zn' zc')).other ⟨w.heap.size + 1, 2, none⟩ (by simp) (.bool (rsure D p xl).dead))
      have B02 := Lib.hid ((((thence AL.out b2 (Nat.le_refl _)).setCell (p := ⟨w.heap.size + 1, 0, none⟩) (by show w.heap.size ≤ w.heap.size + 1; omega) (.slice za zn zc)).setCell (p := ⟨w.heap.size + 1, 1, none⟩) (by show w.heap.size ≤ w.heap.size + 1; omega) (.slice za' zn' zc')).setCell (p := ⟨w.heap.size + 1, 2, none⟩) (by show w.heap.size ≤ w.heap.size + 1; omega) (.bool (rsure D p xl).dead))
      have HX2 : Hid (Dn.inn 0 _ _ ⟨za, zn, zc, za', zn', zc', rsure D p xl⟩) := DevI.mono od3.inn.1 (Nat.zero_le _) (Nat.le_refl _)
      have HHI : Hid ((((w2.setCell ⟨w.heap.size + 1, 0, none⟩ (.slice za zn zc)).setCell ⟨w.heap.size + 1, 1, none⟩ (.slice za' zn' zc')).setCell ⟨w.heap.size + 1, 2, none⟩ (.bool (rsure D p xl).dead)).heap.size ≤ (((w2.setCell ⟨w.heap.size + 1, 0, none⟩ (.slice za zn zc)).setCell ⟨w.heap.size + 1, 1, none⟩ (.slice za' zn' zc')).setCell ⟨w.heap.size + 1, 2, none⟩ (.bool (rsure D p xl).dead)).heap.size) := Nat.le_refl _
      clear od od3 b2 bb2 lt2
      obtain ⟨v7, w7, r7, G7, b7⟩ := GrowK.first typed_dn (Hr.out.here B02.out) (by omega)
      obtain ⟨g, gc, rfl, hg1, hg2, hg3, hg4⟩ := G7.form (by have := HQ.out; omega)
      have R7 := Lib.hid r7
      have GG7 := Lib.hid G7
      have b7' := Lib.hid b7
      have B07 : Hid (Below w.heap.size w w7) := thence B02.out b7 (Nat.le_refl _)
      obtain ⟨a0, -⟩ : w7.cell? ⟨w.heap.size, 0, none⟩ = some (.int .i64 (q : Int)) ∧ True := ⟨(BA2.out.here b7).cell 0, trivial⟩
      obtain ⟨z0, z1, z2⟩ := (BB2.out.here b7).three
      have k0 := GG7.out.dcells HQ.out (j := 0) (show 0 < 3 by omega)
      have k1 := GG7.out.dcells HQ.out (j := 1) (show 1 < 3 by omega)
      have k2 := GG7.out.dcells HQ.out (j := 2) (show 2 < 3 by omega)
      obtain ⟨k0, f0⟩ : w7.cell? ⟨g, q * 3, none⟩ = some (.slice (L.getD q Dn.nil).a (L.getD q Dn.nil).n (L.getD q Dn.nil).c) ∧ w7.frozen? ⟨g, q * 3, none⟩ = false := k0
      obtain ⟨k1, f1⟩ : w7.cell? ⟨g, q * 3 + 1, none⟩ = some (.slice (L.getD q Dn.nil).a' (L.getD q Dn.nil).n' (L.getD q Dn.nil).c') ∧ w7.frozen? ⟨g, q * 3 + 1, none⟩ = false := k1
      obtain ⟨k2, f2⟩ : w7.cell? ⟨g, q * 3 + 2, none⟩ = some (.bool (L.getD q Dn.nil).D.dead) ∧ w7.frozen? ⟨g, q * 3 + 2, none⟩ = false := k2
      have iqL : (q : Int) < (L.length : Int) := by have := HQ.out; omega
      have pp := Lib.hid (GG7.out.put3 rfl HQ.out (x := ⟨za, zn, zc, za', zn', zc', rsure D p xl⟩) (u := .slice za zn zc) (v := .slice za' zn' zc') (z := .bool (rsure D p xl).dead) rfl (lo := 0) (hi := (((w2.setCell ⟨w.heap.size + 1, 0, none⟩ (.slice za zn zc)).setCell ⟨w.heap.size + 1, 1, none⟩ (.slice za' zn' zc')).setCell ⟨w.heap.size + 1, 2, none⟩ (.bool (rsure D p xl).dead)).heap.size) (Nat.le_trans HHI.out b7.size) (kDn.keep HX2.out (.ofBelow b7 HHI.out)) (.inr (Nat.le_trans HHI.out hg1)))
      have BF := Lib.hid (below_put (g := g) (k := q) B07.out (Nat.le_trans B02.out.size hg1) (.slice za zn zc) (.slice za' zn' zc') (.bool (rsure D p xl).dead))
      clear r7 G7 b7 hg1 hg2
      go_wp2_with (at_builtin; refine wpList_append_run rfl _ _ _ _ rfl R7.out ?_)
      go_ret2
      obtain ⟨ra, rc, ee, rg⟩ := pp.out.rg
      injection ee with ee1 ee2 ee3
      subst ee1 ee3
      rw [List.length_set] at rg
      exact ⟨_, _, _, _, rfl, rg, fun _ => by rw [devs_set], BF.out⟩
    · have hE : AK.errs D ⟨(q : Int), 3, p, xl⟩ = false := by simp [AK.errs]
      have hD : AK.rdid D ⟨(q : Int), 3, p, xl⟩ = DK.rflushed D := by simp [AK.rdid, ← hdd]
      rw [hE, hD]
      clear hE hD hdd
      show Calls Try.prog 74 #[.slice (some ⟨ab, off, none⟩) dn dc, .agg #[.int .i64 (q : Int), .int .u8 3, .int .i64 p, .slice xa xlen xcap]] w _
      obtain ⟨bA, bB, al⟩ := boxes2 w [.int .i64 (q : Int), .int .u8 3, .int .i64 p, .slice xa xlen xcap] [.slice ya yn yc, .slice ya' yn' yc', .bool false] 33 37
      have CC : Hid (∀ w1, Below w.heap.size w w1 → Calls Try.prog 87 #[.agg #[.slice ya yn yc, .slice ya' yn' yc', .bool false]] w1 (TheDev w1 (DK.rflushed D))) := fun w1 h => by
        have := refFlushed_any ya yn yc ya' yn' yc' D w1 (DV.out.at.here h) (fit_may HM.out)
        rw [← HDD.out] at this; exact this
      have BA1 := Lib.hid bA
      have BB1 := Lib.hid bB
      have AL := Lib.hid al
      clear bA bB al
      go_enter Try.func74, Try.ntmps74
      go_wp2_with fail
      refine (CC.out _ AL.out).mono ?_
      rintro e w2 ⟨v2, rfl, od, b2⟩
      obtain ⟨za, zn, zc, za', zn', zc', rfl, -⟩ := od.at
      have lt2 := BB1.out.lt
      have bb2 := BB1.out.here b2
      obtain ⟨q0, q1, q2⟩ := bb2.three
      have g0 := bb2.frozen 0
      have g1 := bb2.frozen 1
      have g2 := bb2.frozen 2
      have od3 := ((od.setCell ⟨w.heap.size + 1, 0, none⟩ lt2 (.slice za zn zc)).setCell ⟨w.heap.size + 1, 1, none⟩ lt2 (.slice za' zn' zc')).setCell ⟨w.heap.size + 1, 2, none⟩ lt2 (.bool (DK.rflushed D).dead)
      have BB2 := Lib.hid (((bb2.set 0 (.slice za zn zc)).set 1 (.slice za' zn' zc')).set 2 (.bool (DK.rflushed D).dead))
      have BA2 := Lib.hid ((((BA1.out.here b2).other ⟨w.heap.size + 1, 0, none⟩ (by simp) (.slice za zn zc)).other ⟨w.heap.size + 1, 1, none⟩ (by simp) (.slice za' zn' zc')).other ⟨w.heap.size + 1, 2, none⟩ (by simp) (.bool (DK.rflushed D).dead))
      have B02 := Lib.hid ((((thence AL.out b2 (Nat.le_refl _)).setCell (p := ⟨w.heap.size + 1, 0, none⟩) (by show w.heap.size ≤ w.heap.size + 1; omega) (.slice za zn zc)).setCell (p := ⟨w.heap.size + 1, 1, none⟩) (by show w.heap.size ≤ w.heap.size + 1; omega) (.slice za' zn' zc')).setCell (p := ⟨w.heap.size + 1, 2, none⟩) (by show w.heap.size ≤ w.heap.size + 1; omega) (.bool (DK.rflushed D).dead))
      have HX2 : Hid (Dn.inn 0 _ _ ⟨za, zn, zc, za', zn', zc', DK.rflushed D⟩) := DevI.mono od3.inn.1 (Nat.zero_le _) (Nat.le_refl _)
      have HHI : Hid ((((w2.setCell ⟨w.heap.size + 1, 0, none⟩ (.slice za zn zc)).setCell ⟨w.heap.size + 1, 1, none⟩ (.slice za' zn' zc')).setCell ⟨w.heap.size + 1, 2, none⟩ (.bool (DK.rflushed D).dead)).heap.size ≤ (((w2.setCell ⟨w.heap.size + 1, 0, none⟩ (.slice za zn zc)).setCell ⟨w.heap.size + 1, 1, none⟩ (.slice za' zn' zc')).setCell ⟨w.heap.size + 1, 2, none⟩ (.bool (DK.rflushed D).dead)).heap.size) := Nat.le_refl _
      clear od od3 b2 bb2 lt2
      obtain ⟨v7, w7, r7, G7, b7⟩ := GrowK.first typed_dn (Hr.out.here B02.out) (by omega)
      obtain ⟨g, gc, rfl, hg1, hg2, hg3, hg4⟩ := G7.form (by have := HQ.out; omega)
      have R7 := Lib.hid r7
      have GG7 := Lib.hid G7
      have b7' := Lib.hid b7
      have B07 : Hid (Below w.heap.size w w7) := thence B02.out b7 (Nat.le_refl _)
      obtain ⟨a0, -⟩ : w7.cell? ⟨w.heap.size, 0, none⟩ = some (.int .i64 (q : Int)) ∧ True := ⟨(BA2.out.here b7).cell 0, trivial⟩
      obtain ⟨z0, z1, z2⟩ := (BB2.out.here b7).three
      have k0 := GG7.out.dcells HQ.out (j := 0) (show 0 < 3 by omega)
      have k1 := GG7.out.dcells HQ.out (j := 1) (show 1 < 3 by omega)
      have k2 := GG7.out.dcells HQ.out (j := 2) (show 2 < 3 by omega)
      obtain ⟨k0, f0⟩ : w7.cell? ⟨g, q * 3, none⟩ = some (.slice (L.getD q Dn.nil).a (L.getD q Dn.nil).n (L.getD q Dn.nil).c) ∧ w7.frozen? ⟨g, q * 3, none⟩ = false := k0
      obtain ⟨k1, f1⟩ : w7.cell? ⟨g, q * 3 + 1, none⟩ = some (.slice (L.getD q Dn.nil).a' (L.getD q Dn.nil).n' (L.getD q Dn.nil).c') ∧ w7.frozen? ⟨g, q * 3 + 1, none⟩ = false := k1
      obtain ⟨k2, f2⟩ : w7.cell? ⟨g, q * 3 + 2, none⟩ = some (.bool (L.getD q Dn.nil).D.dead) ∧ w7.frozen? ⟨g, q * 3 + 2, none⟩ = false := k2
      have iqL : (q : Int) < (L.length : Int) := by have := HQ.out; omega
      have pp := Lib.hid (GG7.out.put3 rfl HQ.out (x := ⟨za, zn, zc, za', zn', zc', DK.rflushed D⟩) (u := .slice za zn zc) (v := .slice za' zn' zc') (z := .bool (DK.rflushed D).dead) rfl (lo := 0) (hi := (((w2.setCell ⟨w.heap.size + 1, 0, none⟩ (.slice za zn zc)).setCell ⟨w.heap.size + 1, 1, none⟩ (.slice za' zn' zc')).setCell ⟨w.heap.size + 1, 2, none⟩ (.bool (DK.rflushed D).dead)).heap.size) (Nat.le_trans HHI.out b7.size) (kDn.keep HX2.out (.ofBelow b7 HHI.out)) (.inr (Nat.le_trans HHI.out hg1)))
      have BF := Lib.hid (below_put (g := g) (k := q) B07.out (Nat.le_trans B02.out.size hg1) (.slice za zn zc) (.slice za' zn' zc') (.bool (DK.rflushed D).dead))
      clear r7 G7 b7 hg1 hg2
      go_wp2_with (at_builtin; refine wpList_append_run rfl _ _ _ _ rfl R7.out ?_)
      go_ret2
      obtain ⟨ra, rc, ee, rg⟩ := pp.out.rg
      injection ee with ee1 ee2 ee3
      subst ee1 ee3
      rw [List.length_set] at rg
      exact ⟨_, _, _, _, rfl, rg, fun _ => by rw [devs_set], BF.out⟩
end Go.Proofs.Ytnhfkfihlkbkfaa.PW
