/-
  Contract of layer 5's Run.
-/
import Derived.Test.YtnhfkfihlkbkfaaActsDone
import Derived.Test.YtnhfkfihlkbkfaaActsChecks
import Derived.Outline
namespace Go.Proofs.Ytnhfkfihlkbkfaa.PW
open Go.RowKit
open DK (Dv)
set_option linter.unusedVariables false
set_option linter.unusedSimpArgs false
set_option maxRecDepth 100000

/-- Devices in new memory. -/
def NewDs (w : World) (Ds : List Dv) (v : Value) (w' : World) : Prop :=
  ∃ a len cap M, v = .slice a len cap ∧ Rg kDn w.heap.size w'.heap.size w' a len cap M ∧ devs M = Ds ∧ ∀ x ∈ M, OwnI w.heap.size w'.heap.size w' x
theorem NewDs.nil (w w' : World) : NewDs w [] (.slice none 0 0) w' := ⟨none, 0, 0, [], rfl, rg_nil _ _ _ _, rfl, fun _ h => nomatch h⟩
theorem NewDs.of {w w' : World} {g : Nat} {M : List Dn} (h : OwnDs g w' M) (hg : w.heap.size ≤ g) (hm : M.length ≤ 1000000) : NewDs w (devs M) (.slice (some ⟨g, 0, none⟩) M.length M.length) w' :=
  ⟨_, _, _, M, rfl, (h.rg hm).mono hg (Nat.le_refl _), rfl, fun x hx => (h.each x hx).mono (by omega) (Nat.le_refl _)⟩
/-- What a call answers that hands back devices and an error's number. -/
def DsEnd (w : World) (Ds : List Dv) (c : Nat) (e : Ending) (w' : World) : Prop :=
  ∃ v, e = .returned (.tuple #[v, .int .i64 (c : Int)]) ∧ NewDs w Ds v w' ∧ Below w.heap.size w w'

/-- Devices as they were, but for what acts did to them. -/
structure Alike (Ds Es : List Dv) : Prop where
  len : Es.length = Ds.length
  may : ∀ i, i < Ds.length → DK.may (Es.getD i Dv.nil) = true
  bs : ∀ i, i < Ds.length → (Es.getD i Dv.nil).bs.length = (Ds.getD i Dv.nil).bs.length
theorem okK_alike {D E : Dv} (h : D.bs.length = E.bs.length) (A : AK.Ac) : AK.okK D A = AK.okK E A := by unfold AK.okK DK.has; rw [h]
theorem did_may {D : Dv} {A : AK.Ac} (hm : DK.may D = true) (hk : AK.okK D A = true) (he : AK.errs D A = false) : DK.may (AK.did D A) = true ∧ (AK.did D A).bs.length = D.bs.length := by
  obtain ⟨d, k, p, l⟩ := A
  cases hd : D.dead with
  | true => simp [AK.did, hd, hm]
  | false =>
    by_cases h1 : k = 1
    · subst h1
      have hw := okK_wcode (.inl rfl) hm hk hd
      have h4 : ¬ 1024 ≤ D.ws.length := by simpa [AK.errs, hd] using he
      have e : AK.did D ⟨d, 1, p, l⟩ = DK.put D p l := by simp [AK.did, hd]
      rw [e]
      exact ⟨may_put (wcode'_of hw (by omega)), rfl⟩
    by_cases h2 : k = 2
    · subst h2
      have hw := okK_wcode (.inr rfl) hm hk hd
      have e : AK.did D ⟨d, 2, p, l⟩ = DK.sure D p l := by simp [AK.did, hd]
      rw [e]
      exact ⟨may_sure hw, by simp [DK.sure]⟩
    · have e : AK.did D ⟨d, k, p, l⟩ = DK.flushed D := by simp [AK.did, hd, h1, h2]
      rw [e]
      exact ⟨may_flushed (fcode_of hm hd), lay_length _ _⟩
theorem Alike.refl {Ds : List Dv} (h : AK.mays Ds = true) : Alike Ds Ds := ⟨rfl, fun i hi => (AK.mays_iff.1 h).2.2 _ (AK.mem_get hi), fun _ _ => rfl⟩
theorem Alike.put {Ds Es : List Dv} (h : Alike Ds Es) {m : Nat} (hm : m < Ds.length) {D : Dv} (h1 : DK.may D = true) (h2 : D.bs.length = (Ds.getD m Dv.nil).bs.length) : Alike Ds (Es.set m D) := by
  have hl := h.len
  have get : ∀ i, i < Ds.length → (Es.set m D).getD i Dv.nil = if m = i then D else Es.getD i Dv.nil := fun i hi => by
    split
    · next e => subst e; simp [List.getD, hl, hi]
    · next e => simp [List.getD, List.getElem?_set_ne e]
  refine ⟨by rw [List.length_set, hl], fun i hi => ?_, fun i hi => ?_⟩
  · rw [get i hi]; split
    · exact h1
    · exact h.may i hi
  · rw [get i hi]; split
    · next e => subst e; exact h2
    · exact h.bs i hi

theorem run_step {L N : List Dn} {As : List AK.Ac} {k m q : Nat} {E F : Dv} {A : AK.Ac} (hk : k < m) (h : AK.go AK.did (devs L) (As.take (k + 1)) = some ((devs N).set q (AK.did E A))) (hF : F = AK.did E A)
    (hm : DK.may (AK.did E A) = true ∧ (AK.did E A).bs.length = ((devs L).getD q Dv.nil).bs.length) (hal : Alike (devs L) (devs N)) (hq : q < (devs L).length) {za za' : Option Addr} {zn zc zn' zc' : Nat} :
    k + 1 ≤ m ∧ AK.go AK.did (devs L) (As.take (k + 1)) = some (devs (N.set q ⟨za, zn, zc, za', zn', zc', F⟩)) ∧ Alike (devs L) (devs (N.set q ⟨za, zn, zc, za', zn', zc', F⟩)) := by
  subst hF
  refine ⟨hk, ?_, ?_⟩
  · rw [devs_set, h]
  · rw [devs_set]
    exact hal.put hq hm.1 hm.2
theorem yok {g : Nat} {wr w3 w4 w5 : World} {x y : Dn} (hx : OwnI (g + 1) wr.heap.size wr x) (h : y = x ∨ OwnI w3.heap.size w4.heap.size w4 y) (s1 : Stays (0) wr.heap.size wr w5) (s2 : Stays w3.heap.size w4.heap.size w4 w5) (z1 : wr.heap.size ≤ w5.heap.size) (z2 : w4.heap.size ≤ w5.heap.size) (hg : g + 1 ≤ w3.heap.size) : OwnI (g + 1) w5.heap.size w5 y := by
  rcases h with rfl | h
  · exact (hx.keep (s1.part (Nat.zero_le _) (Nat.le_refl _)) z1).mono (Nat.le_refl _) z1
  · exact (h.keep s2 z2).mono hg z2

/-- What holds at the head of Run's loop. -/
def RunRel (w : World) (g m : Nat) (L : List Dn) (As : List AK.Ac) (i : Value) (wr : World) : Prop :=
  ∃ (k : Nat) (M : List Dn), k ≤ m ∧ i = .int .i64 (k : Nat) ∧ AK.go AK.did (devs L) (As.take k) = some (devs M) ∧ Alike (devs L) (devs M) ∧ OwnDs g wr M ∧ Below w.heap.size w wr

theorem ncode_c {Ds : List Dv} {As : List AK.Ac} {n : Int} {f : Dv → AK.Ac → Dv} (h : AK.acode Ds As ≠ 0) : AK.ncode Ds As n f = AK.acode Ds As := by simp [AK.ncode, h]
theorem ncode_n {Ds : List Dv} {As : List AK.Ac} {n : Int} {f : Dv → AK.Ac → Dv} (h : AK.acode Ds As = 0) (h2 : n < 0 ∨ (As.length : Int) < n) : AK.ncode Ds As n f = 2 := by simp [AK.ncode, h, h2]
theorem ncode_m {Ds : List Dv} {As : List AK.Ac} {m : Nat} {f : Dv → AK.Ac → Dv} (h : AK.acode Ds As = 0) (h2 : m ≤ As.length) : AK.ncode Ds As (m : Int) f = if (AK.go f Ds (As.take m)).isNone then 9 else 0 := by
  have h3 : ¬ ((m : Int) < 0 ∨ (As.length : Int) < (m : Int)) := by omega
  unfold AK.ncode
  rw [if_neg (by rw [h]; simp), if_neg h3, Int.toNat_natCast]
theorem ran_no {Ds : List Dv} {As : List AK.Ac} {n : Int} {f : Dv → AK.Ac → Dv} (h : AK.ncode Ds As n f ≠ 0) : AK.ran Ds As n f = [] := by simp [AK.ran, h]

theorem take_snoc {As : List AK.Ac} {k : Nat} (h : k < As.length) : As.take (k + 1) = As.take k ++ [As.getD k AK.Ac.nil] := by
  rw [List.take_succ_eq_append_getElem h]
  simp [List.getD, h]
theorem go_next {f : Dv → AK.Ac → Dv} {Ds Es : List Dv} {As : List AK.Ac} {k : Nat} (h : k < As.length) (hg : AK.go f Ds (As.take k) = some Es) :
    AK.go f Ds (As.take (k + 1)) = if AK.errs (Es.getD (As.getD k AK.Ac.nil).disk.toNat Dv.nil) (As.getD k AK.Ac.nil) then none else some (Es.set (As.getD k AK.Ac.nil).disk.toNat (f (Es.getD (As.getD k AK.Ac.nil).disk.toNat Dv.nil) (As.getD k AK.Ac.nil))) := by
  rw [take_snoc h, AK.go_snoc, hg]
  rfl
theorem go_none {f : Dv → AK.Ac → Dv} {Ds : List Dv} {As : List AK.Ac} {k m : Nat} (hk : k ≤ m) (h : AK.go f Ds (As.take k) = none) : AK.go f Ds (As.take m) = none := by
  have e : As.take m = As.take k ++ (As.take m).drop k := by
    have := (List.take_append_drop k (As.take m)).symm
    rw [List.take_take, Nat.min_eq_left hk] at this
    exact this
  rw [e, AK.go_append, h]
  rfl

set_option maxHeartbeats 4000000 in
theorem run_any (b : Option Addr) (dn dc : Nat) (L : List Dn) (a : Option Addr) (len cap : Nat) (M : List Ax) (n : Int) (w : World) (hr : Rg kDn 0 w.heap.size w b dn dc L) (ha : Rg kAx 0 w.heap.size w a len cap M) :
    Calls Try.prog 10 #[.slice b dn dc, .slice a len cap, .int .i64 n] w (DsEnd w (AK.ran (devs L) (acs M) n AK.did) (AK.ncode (devs L) (acs M) n AK.did)) := by
  have CK := Lib.hid (actsCheck_any a len cap M b dn dc L w ha hr)
  have Hlen : Hid (len = (acs M).length) := by show _ = _; rw [acs_length]; exact ha.long
  have hs := ha.small'
  have Ha := Lib.hid ha
  have Hr := Lib.hid hr
  clear ha hr
  by_cases h0 : AK.acode (devs L) (acs M) = 0
  case neg =>
    have e0 : ((AK.acode (devs L) (acs M) : Int) == 0) = false := by rw [beq_eq_false_iff_ne]; omega
    have e1 : ((AK.acode (devs L) (acs M) : Int) != 0) = true := by rw [bne, e0]; rfl
    have HC := Lib.hid (ncode_c (n := n) (f := AK.did) h0)
    have HR := Lib.hid (ran_no (As := acs M) (n := n) (f := AK.did) (by rw [HC.out]; exact h0))
    rw [HC.out, HR.out]
    clear h0
    generalize AK.acode (devs L) (acs M) = q at *
    go_enter Try.func10, Try.ntmps10
    go_wp2_with fail
    refine CK.out.mono ?_
    rintro e w1 ⟨rfl, b1⟩
    go_wp2_with fail
    go_ret2
    exact ⟨_, rfl, NewDs.nil _ _, b1⟩
  rw [h0] at CK
  by_cases hn : n < 0
  · have HC := Lib.hid (ncode_n (As := acs M) (f := AK.did) h0 (.inl hn))
    have HR := Lib.hid (ran_no (As := acs M) (n := n) (f := AK.did) (by rw [HC.out]; omega))
    rw [HC.out, HR.out]
    clear h0
    go_enter Try.func10, Try.ntmps10
    go_wp2_with fail
    refine CK.out.mono ?_
    rintro e w1 ⟨rfl, b1⟩
    go_wp2_with fail
    go_ret2
    exact ⟨_, rfl, NewDs.nil _ _, b1⟩
  by_cases hn2 : (len : Int) < n
  · have HC := Lib.hid (ncode_n (As := acs M) (f := AK.did) h0 (.inr (by rw [← Hlen.out]; exact hn2)))
    have HR := Lib.hid (ran_no (As := acs M) (n := n) (f := AK.did) (by rw [HC.out]; omega))
    rw [HC.out, HR.out]
    clear h0
    go_enter Try.func10, Try.ntmps10
    go_wp2_with fail
    refine CK.out.mono ?_
    rintro e w1 ⟨rfl, b1⟩
    go_wp2_with fail
    go_ret2
    exact ⟨_, rfl, NewDs.nil _ _, b1⟩
  · obtain ⟨m, rfl⟩ := Int.eq_ofNat_of_zero_le (show 0 ≤ n by omega)
    obtain ⟨hmy, hl, hok⟩ := AK.acode_zero h0
    have HC := Lib.hid (ncode_m (f := AK.did) h0 (m := m) (by rw [← Hlen.out]; omega))
    have CT : Hid (∀ w1, Below w.heap.size w w1 → Calls Try.prog 44 #[.slice b dn dc] w1 (TwinsEnd w1 (devs L))) := fun w1 h =>
      twins_any b dn dc L w1 (Hr.out.here h) (fun D hD => fit_may ((AK.mays_iff.1 hmy).2.2 D hD)) (by have := Hr.out.long; have := (AK.mays_iff.1 hmy).2.1; rw [devs_length] at this; omega)
    have h17 : L.length ≤ 17 := by have := (AK.mays_iff.1 hmy).2.1; rw [devs_length] at this; exact this
    have HA := Lib.hid (Alike.refl hmy)
    have hm1 : m ≤ len := by omega
    have hl2 : len ≤ 1024 := by rw [Hlen.out]; exact hl
    have hi1 : (m : Int) ≤ (len : Int) := by omega
    have hcap : len ≤ cap := by have := Ha.out.fits; have := Ha.out.long; omega
    have hcap2 := Ha.out.small
    unfold maxLen at hcap2
    have hi2 : (m : Int) ≤ (cap : Int) := by omega
    have HO := Lib.hid hok
    clear hn hn2 h0 hok hmy
    go_enter Try.func10, Try.ntmps10
    go_wp2_with fail
    refine CK.out.mono ?_
    rintro e w1 ⟨rfl, b1⟩
    have B1 := Lib.hid b1
    clear b1
    go_wp2_with fail
    refine (CT.out _ B1.out).mono ?_
    rintro e w2 ⟨M0, c0, rfl, hM0, bx0, mk0, b2⟩
    have B2 := Lib.hid (thence B1.out b2 (Nat.le_refl _))
    have OD : Hid (OwnDs w1.heap.size w2 M0) := ⟨bx0, mk0.all⟩
    have HM0 := Lib.hid hM0
    clear hM0 bx0 mk0
    go_wp2_with fail
    go_loopw [34] (fun i wr => RunRel w w1.heap.size m L (acs M) i wr) (fun i _ => m - (intOf i).toNat)
    case atStart => exact ⟨0, M0, Nat.zero_le _, rfl, by rw [HM0.out]; rfl, by rw [HM0.out]; exact HA.out, OD.out, B2.out⟩
    case round =>
      obtain ⟨k, N, hk, rfl, hgo, hal, hod, hbw⟩ := hrel
      have WB := Lib.hid hbw
      have HGO := Lib.hid hgo
      have HAL := Lib.hid hal
      have HOD := Lib.hid hod
      have hg1 : w.heap.size ≤ w1.heap.size := B1.out.size
      clear hbw hgo hal hod
      by_cases hlt : k < m
      · have hkM : k < M.length := by have := Hlen.out; rw [acs_length] at this; omega
        obtain ⟨ab, off, d, kd, p, xa, xlen, xcap, xl, e1, hbB, e2, rd, hkd⟩ := Ha.out.act k hkM
        subst e1
        obtain ⟨c0, c1, c2, c3⟩ := (Ha.out.below WB.out (Nat.le_refl _)).acell hkM e2
        have E2 : Hid ((acs M).getD k AK.Ac.nil = ⟨d, kd, p, xl⟩) := by show _ = _; rw [acs_getD, e2]; rfl
        have RD := Lib.hid rd.1
        have hA : AK.okA (devs L) ⟨d, kd, p, xl⟩ = true := by rw [← E2.out]; exact HO.out _ (AK.mem_get (by rw [acs_length]; exact hkM))
        clear e2 rd
        have hA' := hA
        unfold AK.okA at hA'
        rw [Bool.and_eq_true, AK.isOf_iff, devs_length] at hA'
        obtain ⟨⟨hd0, hd1⟩, hokK⟩ := hA'
        obtain ⟨q, rfl⟩ := Int.eq_ofNat_of_zero_le hd0
        have hq : q < L.length := by have hd2 : (q : Int) < (L.length : Int) := hd1; omega
        have hNl : N.length = L.length := by have := HAL.out.len; rw [devs_length, devs_length] at this; exact this
        have hqN : q < N.length := by omega
        have HNL := Lib.hid hNl
        rw [show ((q : Int)).toNat = q by simp] at hokK
        obtain ⟨y, hy⟩ : ∃ y, N.getD q Dn.nil = y := ⟨_, rfl⟩
        have HY := Lib.hid hy
        have hyD : (devs N).getD q Dv.nil = y.D := by rw [devs_getD, hy]
        have hmy : DK.may y.D = true := by rw [← hyD]; exact HAL.out.may q (by rw [devs_length]; exact hq)
        have hky : AK.okK y.D ⟨(q : Int), kd, p, xl⟩ = true := by rw [okK_alike (E := (devs L).getD q Dv.nil) (by rw [← hyD]; exact HAL.out.bs q (by rw [devs_length]; exact hq))]; exact hokK
        have hbs : y.D.bs.length = ((devs L).getD q Dv.nil).bs.length := by rw [← hyD]; exact HAL.out.bs q (by rw [devs_length]; exact hq)
        have yin : y ∈ N := by rw [← hy]; exact AK.mem_get hqN
        have OY := Lib.hid (HOD.out.each y yin)
        obtain ⟨k0, k1, k2⟩ := HOD.out.bx.dcell hqN hy
        have hxl : xl.length ≤ 100000 := by
          have : xl.length = 0 ∨ xl.length = 128 := by
            by_cases h12 : kd = 1 ∨ kd = 2
            · rw [okK_w h12] at hky; simp only [Bool.and_eq_true, Bool.or_eq_true, decide_eq_true_eq] at hky; exact hky.2
            · by_cases h3 : kd = 3
              · subst h3; rw [okK_f] at hky; simp only [Bool.and_eq_true, decide_eq_true_eq] at hky; exact .inl hky.2
              · rw [okK_o (fun h => h12 (.inl h)) (fun h => h12 (.inr h)) h3] at hky; cases hky
          omega
        obtain ⟨ya, yn, yc, ya', yn', yc', E⟩ := y
        have CD : Hid (∀ w3, Below wr.heap.size wr w3 → Calls Try.prog 45 #[.agg #[.slice ya yn yc, .slice ya' yn' yc', .bool E.dead], .agg #[.int .i64 (q : Int), .int .u8 (kd : Int), .int .i64 p, .slice xa xlen xcap]] w3 (DoneEnd w3 ⟨ya, yn, yc, ya', yn', yc', E⟩ ⟨(q : Int), kd, p, xl⟩)) := fun w3 h =>
          done_any ⟨ya, yn, yc, ya', yn', yc', E⟩ (q : Int) p kd xa xlen xcap xl w3 ((OY.out.here h).at) hmy (((RD.out.below WB.out).mono WB.out.size).here h) hxl hky
        have HN : Hid (AK.go AK.did (devs L) ((acs M).take (k + 1)) = if AK.errs E ⟨(q : Int), kd, p, xl⟩ then none else some ((devs N).set q (AK.did E ⟨(q : Int), kd, p, xl⟩))) := by
          show _ = _
          rw [go_next (by rw [acs_length]; exact hkM) HGO.out, E2.out]
          show (if AK.errs ((devs N).getD ((q : Int)).toNat Dv.nil) _ = true then none else some ((devs N).set ((q : Int)).toNat (AK.did ((devs N).getD ((q : Int)).toNat Dv.nil) _))) = _
          rw [show ((q : Int)).toNat = q by simp, hyD]
        have HDM : Hid (AK.errs E ⟨(q : Int), kd, p, xl⟩ = false → DK.may (AK.did E ⟨(q : Int), kd, p, xl⟩) = true ∧ (AK.did E ⟨(q : Int), kd, p, xl⟩).bs.length = ((devs L).getD q Dv.nil).bs.length) := fun he => by
          have := did_may hmy hky he
          exact ⟨this.1, this.2.trans hbs⟩
        have hk1 : (k : Int) < (m : Int) := by omega
        have hq1 : (q : Int) < (N.length : Int) := by omega
        have hN17 : N.length ≤ 17 := by omega
        have hlenM : N.length = M0.length := by
          have h1 := HM0.out
          have h2 : (devs M0).length = (devs L).length := by rw [h1]
          rw [devs_length, devs_length] at h2
          omega
        have HQN := Lib.hid hqN
        have HL2 := Lib.hid hlenM
        have hq2 : (q : Int) < (M0.length : Int) := by omega
        clear hy hyD hmy hky hbs yin hxl hA hokK hNl hlenM hd0 hd1 hq
        have KD : Hid (∀ w', Below wr.heap.size wr w' → w'.cell? ⟨w1.heap.size, q * 3, none⟩ = some (.slice ya yn yc) ∧ w'.cell? ⟨w1.heap.size, q * 3 + 1, none⟩ = some (.slice ya' yn' yc') ∧ w'.cell? ⟨w1.heap.size, q * 3 + 2, none⟩ = some (.bool E.dead)) := fun w' h =>
          (HOD.out.bx.here h).dcell HQN.out HY.out
        have HG : Hid (w1.heap.size < wr.heap.size) := HOD.out.bx.lt
        clear k0 k1 k2
        rcases Bool.eq_false_or_eq_true (AK.errs E ⟨(q : Int), kd, p, xl⟩) with he | he
        · have HZ := Lib.hid (go_none (f := AK.did) (Ds := devs L) (As := acs M) (k := k + 1) (m := m) (by omega) (by rw [HN.out, he]; rfl))
          have e9 : AK.ncode (devs L) (acs M) (m : Int) AK.did = 9 := by rw [HC.out, HZ.out]; rfl
          have er : AK.ran (devs L) (acs M) (m : Int) AK.did = [] := ran_no (by rw [e9]; omega)
          have E9 := Lib.hid e9
          have ER := Lib.hid er
          replace CD : Hid (∀ w3, Below wr.heap.size wr w3 → Calls Try.prog 45 #[.agg #[.slice ya yn yc, .slice ya' yn' yc', .bool E.dead], .agg #[.int .i64 (q : Int), .int .u8 (kd : Int), .int .i64 p, .slice xa xlen xcap]] w3 fun e w' => ∃ y : Dn, e = .returned (.tuple #[y.val, .int .i64 9]) ∧ Below w3.heap.size w3 w') := fun w3 h =>
            (CD.out w3 h).mono fun e w' ⟨y, h1, _, h3⟩ => ⟨y, by rw [h1, he]; rfl, h3⟩
          clear he e9 er HN HDM HZ
          have bxa := Bx.new wr [.int .i64 (q : Int), .int .u8 (kd : Int), .int .i64 p, .slice xa xlen xcap] 33
          have ala : Below wr.heap.size wr (wr.alloc (.cells #[.int .i64 (q : Int), .int .u8 (kd : Int), .int .i64 p, .slice xa xlen xcap] 33)) := (Below.refl _ _).alloc (Nat.le_refl _) _
          go_wp2_with fail
          generalize wr.alloc (.cells #[.int .i64 (q : Int), .int .u8 (kd : Int), .int .i64 p, .slice xa xlen xcap] 33) = W1 at *
          have BXA := Lib.hid bxa
          have ALA := Lib.hid ala
          clear bxa ala
          refine wp_region_noPanic ?_
          refine PX.wp_region_y (fun w' => Below W1.heap.size W1 w') [] (by kernel_rfl) (Below.refl _ _).drew (fun hHeld => ?_)
          refine PX.wpAnyY_take (i := 0) (oi := ?_) (v := ?_) ?_ (by kernel_rfl) (by kernel_rfl) (by kernel_rfl) (by kernel_rfl) (by kernel_rfl) (fun _ _ _ h => h) (Or.inl ⟨?_, ?_⟩) (by assumption) ?_
          rotate_left 2
          · simp only [List.getElem?_toArray, List.getElem?_cons_succ, List.getElem?_cons_zero]; rfl
          · rfl
          · intro w hSw; (try dsimp only at hSw); go_simp <;> with_reducible rfl
          (try simp only [Act.put, List.setIfInBounds_toArray, List.set_cons_zero, List.set_cons_succ])
          refine PX.wpAnyY_take (i := 1) (oi := ?_) (v := ?_) ?_ (by kernel_rfl) (by kernel_rfl) (by kernel_rfl) (by kernel_rfl) (by kernel_rfl) (fun _ _ _ h => h) (Or.inl ⟨?_, ?_⟩) (by assumption) ?_
          rotate_left 2
          · simp only [List.getElem?_toArray, List.getElem?_cons_succ, List.getElem?_cons_zero]; rfl
          · rfl
          · intro w hSw; (try dsimp only at hSw); go_simp <;> with_reducible rfl
          (try simp only [Act.put, List.setIfInBounds_toArray, List.set_cons_zero, List.set_cons_succ])
          refine PX.wpAnyY_take (i := 2) (oi := ?_) (v := ?_) ?_ (by kernel_rfl) (by kernel_rfl) (by kernel_rfl) (by kernel_rfl) (by kernel_rfl) (fun _ _ _ h => h) (Or.inl ⟨?_, ?_⟩) (by assumption) ?_
          rotate_left 2
          · simp only [List.getElem?_toArray, List.getElem?_cons_succ, List.getElem?_cons_zero]; rfl
          · rfl
          · intro w hSw; (try dsimp only at hSw); have b0 := (BXA.out.here hSw).cell 0; have b1 := (BXA.out.here hSw).cell 1; have b2 := (BXA.out.here hSw).cell 2; have b3 := (BXA.out.here hSw).cell 3; simp only [List.getElem?_cons_zero, List.getElem?_cons_succ] at b0 b1 b2 b3; go_simp <;> with_reducible rfl
          (try simp only [Act.put, List.setIfInBounds_toArray, List.set_cons_zero, List.set_cons_succ])
          refine PX.wpAnyY_take (i := 3) (oi := ?_) (v := ?_) ?_ (by kernel_rfl) (by kernel_rfl) (by kernel_rfl) (by kernel_rfl) (by kernel_rfl) (fun _ _ _ h => h) (Or.inl ⟨?_, ?_⟩) (by assumption) ?_
          rotate_left 2
          · simp only [List.getElem?_toArray, List.getElem?_cons_succ, List.getElem?_cons_zero]; rfl
          · rfl
          · intro w hSw; (try dsimp only at hSw); go_simp <;> with_reducible rfl
          (try simp only [Act.put, List.setIfInBounds_toArray, List.set_cons_zero, List.set_cons_succ])
          refine PX.wpAnyY_take (i := 4) (oi := ?_) (v := ?_) ?_ (by kernel_rfl) (by kernel_rfl) (by kernel_rfl) (by kernel_rfl) (by kernel_rfl) (fun _ _ _ h => h) (Or.inl ⟨?_, ?_⟩) (by assumption) ?_
          rotate_left 2
          · simp only [List.getElem?_toArray, List.getElem?_cons_succ, List.getElem?_cons_zero]; rfl
          · rfl
          · intro w hSw; (try dsimp only at hSw); obtain ⟨k0, k1, k2⟩ := KD.out _ (thence ALA.out hSw (Nat.le_refl _)); go_simp <;> with_reducible rfl
          (try simp only [Act.put, List.setIfInBounds_toArray, List.set_cons_zero, List.set_cons_succ])
          refine PX.wpAnyY_take (i := 5) (oi := ?_) (v := ?_) ?_ (by kernel_rfl) (by kernel_rfl) (by kernel_rfl) (by kernel_rfl) (by kernel_rfl) (fun _ _ _ h => h) (Or.inl ⟨?_, ?_⟩) (by assumption) ?_
          rotate_left 2
          · simp only [List.getElem?_toArray, List.getElem?_cons_succ, List.getElem?_cons_zero]; rfl
          · rfl
          · intro w hSw; (try dsimp only at hSw); have b0 := (BXA.out.here hSw).cell 0; have b1 := (BXA.out.here hSw).cell 1; have b2 := (BXA.out.here hSw).cell 2; have b3 := (BXA.out.here hSw).cell 3; simp only [List.getElem?_cons_zero, List.getElem?_cons_succ] at b0 b1 b2 b3; go_simp <;> with_reducible rfl
          (try simp only [Act.put, List.setIfInBounds_toArray, List.set_cons_zero, List.set_cons_succ])
          refine PX.wpAnyY_two (i := 6) (j := 10) (o := ?_) (o' := ?_) (by kernel_rfl) ?_ ?_ (fun Kq hKq => ?_) (fun Kq hKq => ?_)
          rotate_left 2
          · simp only [List.getElem?_toArray, List.getElem?_cons_succ, List.getElem?_cons_zero]; rfl
          · simp only [List.getElem?_toArray, List.getElem?_cons_succ, List.getElem?_cons_zero]; rfl
          · go_simp
            have HH3 := Lib.hid (thence ALA.out hHeld (Nat.le_refl _))
            refine (CD.out _ HH3.out).mono ?_
            rintro e w4 ⟨⟨za, zn, zc, za', zn', zc', F⟩, rfl, b4⟩
            have B4 : Hid (Below W1.heap.size W1 w4) := thence hHeld b4 (Nat.le_refl _)
            have BB4 := Lib.hid b4
            clear b4
            simp only [Dn.val]
            go_wp2_with fail
            refine hKq.out _ _ (B4.out) (fun hHeld => ?_)
            clear hKq Kq
            (try simp only [Act.put, List.setIfInBounds_toArray, List.set_cons_zero, List.set_cons_succ])
            refine PX.wpAnyY_take (i := 7) (oi := ?_) (v := ?_) ?_ (by kernel_rfl) (by kernel_rfl) (by kernel_rfl) (by kernel_rfl) (by kernel_rfl) (fun _ _ _ h => h) (Or.inl ⟨?_, ?_⟩) (by assumption) ?_
            rotate_left 2
            · simp only [List.getElem?_toArray, List.getElem?_cons_succ, List.getElem?_cons_zero]; rfl
            · rfl
            · intro w hSw; (try dsimp only at hSw); go_simp <;> with_reducible rfl
            (try simp only [Act.put, List.setIfInBounds_toArray, List.set_cons_zero, List.set_cons_succ])
            refine PX.wpAnyY_take (i := 8) (oi := ?_) (v := ?_) ?_ (by kernel_rfl) (by kernel_rfl) (by kernel_rfl) (by kernel_rfl) (by kernel_rfl) (fun _ _ _ h => h) (Or.inl ⟨?_, ?_⟩) (by assumption) ?_
            rotate_left 2
            · simp only [List.getElem?_toArray, List.getElem?_cons_succ, List.getElem?_cons_zero]; rfl
            · rfl
            · intro w hSw; (try dsimp only at hSw); go_simp <;> with_reducible rfl
            (try simp only [Act.put, List.setIfInBounds_toArray, List.set_cons_zero, List.set_cons_succ])
            refine PX.wpAnyY_take (i := 9) (oi := ?_) (v := ?_) ?_ (by kernel_rfl) (by kernel_rfl) (by kernel_rfl) (by kernel_rfl) (by kernel_rfl) (fun _ _ _ h => h) (Or.inl ⟨?_, ?_⟩) (by assumption) ?_
            rotate_left 2
            · simp only [List.getElem?_toArray, List.getElem?_cons_succ, List.getElem?_cons_zero]; rfl
            · rfl
            · intro w hSw; (try dsimp only at hSw); go_simp <;> with_reducible rfl
            (try simp only [Act.put, List.setIfInBounds_toArray, List.set_cons_zero, List.set_cons_succ])
            refine PX.wpAnyY_one (i := 10) (o := ?_) (by kernel_rfl) ?_ (fun Kq hKq => ?_)
            rotate_left
            · simp only [List.getElem?_toArray, List.getElem?_cons_succ, List.getElem?_cons_zero]; rfl
            go_simp
            refine hKq.out _ _ (B4.out.alloc B4.out.size _) (fun hHeld => ?_)
            clear hKq Kq
            (try simp only [Act.put, List.setIfInBounds_toArray, List.set_cons_zero, List.set_cons_succ])
            refine PX.wpAnyY_one (i := 11) (o := ?_) (by kernel_rfl) ?_ (fun Kq hKq => ?_)
            rotate_left
            · simp only [List.getElem?_toArray, List.getElem?_cons_succ, List.getElem?_cons_zero]; rfl
            go_simp
            refine hKq.out _ _ (B4.out.alloc B4.out.size _) (fun hHeld => ?_)
            clear hKq Kq
            (try simp only [Act.put, List.setIfInBounds_toArray, List.set_cons_zero, List.set_cons_succ])
            refine PX.wpAnyY_one (i := 12) (o := ?_) (by kernel_rfl) ?_ (fun Kq hKq => ?_)
            rotate_left
            · simp only [List.getElem?_toArray, List.getElem?_cons_succ, List.getElem?_cons_zero]; rfl
            go_simp
            refine hKq.out _ _ (B4.out.alloc B4.out.size _) (fun hHeld => ?_)
            clear hKq Kq
            (try simp only [Act.put, List.setIfInBounds_toArray, List.set_cons_zero, List.set_cons_succ])
            refine PX.wpAnyY_done (by kernel_rfl) ?_ _
            refine NoPanic.normal ?_
            go_wp2_with fail
            go_ret2
            exact ⟨.slice none 0 0, by rw [E9.out]; rfl, by rw [ER.out]; exact NewDs.nil _ _, thence WB.out (thence ALA.out hHeld (Nat.le_refl _)) (Nat.le_refl _)⟩
          · go_simp
            have BXZ := Lib.hid (Bx.new W1 [.slice none 0 0, .slice none 0 0, .bool false] 37).drew
            refine hKq.out _ _ (((Below.refl _ _).alloc (Nat.le_refl _) _).drew) (fun hHeld => ?_)
            clear hKq Kq
            (try simp only [Act.put, List.setIfInBounds_toArray, List.set_cons_zero, List.set_cons_succ])
            refine PX.wpAnyY_one (i := 6) (o := ?_) (by kernel_rfl) ?_ (fun Kq hKq => ?_)
            rotate_left
            · simp only [List.getElem?_toArray, List.getElem?_cons_succ, List.getElem?_cons_zero]; rfl
            go_simp
            have HH3 := Lib.hid (thence ALA.out hHeld (Nat.le_refl _))
            refine (CD.out _ HH3.out).mono ?_
            rintro e w4 ⟨⟨za, zn, zc, za', zn', zc', F⟩, rfl, b4⟩
            have B4 : Hid (Below W1.heap.size W1 w4) := thence hHeld b4 (Nat.le_refl _)
            have BB4 := Lib.hid b4
            clear b4
            simp only [Dn.val]
            go_wp2_with fail
            refine hKq.out _ _ (B4.out) (fun hHeld => ?_)
            clear hKq Kq
            (try simp only [Act.put, List.setIfInBounds_toArray, List.set_cons_zero, List.set_cons_succ])
            refine PX.wpAnyY_take (i := 7) (oi := ?_) (v := ?_) ?_ (by kernel_rfl) (by kernel_rfl) (by kernel_rfl) (by kernel_rfl) (by kernel_rfl) (fun _ _ _ h => h) (Or.inl ⟨?_, ?_⟩) (by assumption) ?_
            rotate_left 2
            · simp only [List.getElem?_toArray, List.getElem?_cons_succ, List.getElem?_cons_zero]; rfl
            · rfl
            · intro w hSw; (try dsimp only at hSw); go_simp <;> with_reducible rfl
            (try simp only [Act.put, List.setIfInBounds_toArray, List.set_cons_zero, List.set_cons_succ])
            refine PX.wpAnyY_take (i := 8) (oi := ?_) (v := ?_) ?_ (by kernel_rfl) (by kernel_rfl) (by kernel_rfl) (by kernel_rfl) (by kernel_rfl) (fun _ _ _ h => h) (Or.inl ⟨?_, ?_⟩) (by assumption) ?_
            rotate_left 2
            · simp only [List.getElem?_toArray, List.getElem?_cons_succ, List.getElem?_cons_zero]; rfl
            · rfl
            · intro w hSw; (try dsimp only at hSw); go_simp <;> with_reducible rfl
            (try simp only [Act.put, List.setIfInBounds_toArray, List.set_cons_zero, List.set_cons_succ])
            refine PX.wpAnyY_take (i := 9) (oi := ?_) (v := ?_) ?_ (by kernel_rfl) (by kernel_rfl) (by kernel_rfl) (by kernel_rfl) (by kernel_rfl) (fun _ _ _ h => h) (Or.inl ⟨?_, ?_⟩) (by assumption) ?_
            rotate_left 2
            · simp only [List.getElem?_toArray, List.getElem?_cons_succ, List.getElem?_cons_zero]; rfl
            · rfl
            · intro w hSw; (try dsimp only at hSw); go_simp <;> with_reducible rfl
            (try simp only [Act.put, List.setIfInBounds_toArray, List.set_cons_zero, List.set_cons_succ])
            refine PX.wpAnyY_one (i := 11) (o := ?_) (by kernel_rfl) ?_ (fun Kq hKq => ?_)
            rotate_left
            · simp only [List.getElem?_toArray, List.getElem?_cons_succ, List.getElem?_cons_zero]; rfl
            have bz : Bx w4 W1.heap.size [.slice none 0 0, .slice none 0 0, .bool false] := BXZ.out.here BB4.out
            obtain ⟨q0, q1, q2⟩ := bz.three
            have f0 := bz.frozen 0
            have f1 := bz.frozen 1
            have f2 := bz.frozen 2
            go_simp
            refine hKq.out _ _ (((B4.out.setCell (p := ⟨W1.heap.size, 0, none⟩) (Nat.le_refl _) _).setCell (p := ⟨W1.heap.size, 1, none⟩) (Nat.le_refl _) _).setCell (p := ⟨W1.heap.size, 2, none⟩) (Nat.le_refl _) _) (fun hHeld => ?_)
            clear hKq Kq
            (try simp only [Act.put, List.setIfInBounds_toArray, List.set_cons_zero, List.set_cons_succ])
            refine PX.wpAnyY_one (i := 12) (o := ?_) (by kernel_rfl) ?_ (fun Kq hKq => ?_)
            rotate_left
            · simp only [List.getElem?_toArray, List.getElem?_cons_succ, List.getElem?_cons_zero]; rfl
            go_simp
            refine hKq.out _ _ (((B4.out.setCell (p := ⟨W1.heap.size, 0, none⟩) (Nat.le_refl _) _).setCell (p := ⟨W1.heap.size, 1, none⟩) (Nat.le_refl _) _).setCell (p := ⟨W1.heap.size, 2, none⟩) (Nat.le_refl _) _) (fun hHeld => ?_)
            clear hKq Kq
            (try simp only [Act.put, List.setIfInBounds_toArray, List.set_cons_zero, List.set_cons_succ])
            refine PX.wpAnyY_done (by kernel_rfl) ?_ _
            refine NoPanic.normal ?_
            go_wp2_with fail
            go_ret2
            exact ⟨.slice none 0 0, by rw [E9.out]; rfl, by rw [ER.out]; exact NewDs.nil _ _, thence WB.out (thence ALA.out hHeld (Nat.le_refl _)) (Nat.le_refl _)⟩
        · have HE := Lib.hid he
          replace HN : Hid (AK.go AK.did (devs L) ((acs M).take (k + 1)) = some ((devs N).set q (AK.did E ⟨(q : Int), kd, p, xl⟩))) := by show _ = _; rw [HN.out, he]; rfl
          replace CD : Hid (∀ w3, Below wr.heap.size wr w3 → Calls Try.prog 45 #[.agg #[.slice ya yn yc, .slice ya' yn' yc', .bool E.dead], .agg #[.int .i64 (q : Int), .int .u8 (kd : Int), .int .i64 p, .slice xa xlen xcap]] w3 fun e w' => ∃ y : Dn, e = .returned (.tuple #[y.val, .int .i64 0]) ∧ y.D = AK.did E ⟨(q : Int), kd, p, xl⟩ ∧ (y = ⟨ya, yn, yc, ya', yn', yc', E⟩ ∨ OwnI w3.heap.size w'.heap.size w' y) ∧ Below w3.heap.size w3 w') := fun w3 h =>
            (CD.out w3 h).mono fun e w' ⟨y, h1, h2, h3⟩ => ⟨y, by rw [h1, he]; rfl, (h2 he).1, (h2 he).2, h3⟩
          clear he
          have bxa := Bx.new wr [.int .i64 (q : Int), .int .u8 (kd : Int), .int .i64 p, .slice xa xlen xcap] 33
          have ala : Below wr.heap.size wr (wr.alloc (.cells #[.int .i64 (q : Int), .int .u8 (kd : Int), .int .i64 p, .slice xa xlen xcap] 33)) := (Below.refl _ _).alloc (Nat.le_refl _) _
          go_wp2_with fail
          generalize wr.alloc (.cells #[.int .i64 (q : Int), .int .u8 (kd : Int), .int .i64 p, .slice xa xlen xcap] 33) = W1 at *
          have BXA := Lib.hid bxa
          have ALA := Lib.hid ala
          clear bxa ala
          refine wp_region_noPanic ?_
          refine PX.wp_region_y (fun w' => Below W1.heap.size W1 w') [] (by kernel_rfl) (Below.refl _ _).drew (fun hHeld => ?_)
          refine PX.wpAnyY_take (i := 0) (oi := ?_) (v := ?_) ?_ (by kernel_rfl) (by kernel_rfl) (by kernel_rfl) (by kernel_rfl) (by kernel_rfl) (fun _ _ _ h => h) (Or.inl ⟨?_, ?_⟩) (by assumption) ?_
          rotate_left 2
          · simp only [List.getElem?_toArray, List.getElem?_cons_succ, List.getElem?_cons_zero]; rfl
          · rfl
          · intro w hSw; (try dsimp only at hSw); go_simp <;> with_reducible rfl
          (try simp only [Act.put, List.setIfInBounds_toArray, List.set_cons_zero, List.set_cons_succ])
          refine PX.wpAnyY_take (i := 1) (oi := ?_) (v := ?_) ?_ (by kernel_rfl) (by kernel_rfl) (by kernel_rfl) (by kernel_rfl) (by kernel_rfl) (fun _ _ _ h => h) (Or.inl ⟨?_, ?_⟩) (by assumption) ?_
          rotate_left 2
          · simp only [List.getElem?_toArray, List.getElem?_cons_succ, List.getElem?_cons_zero]; rfl
          · rfl
          · intro w hSw; (try dsimp only at hSw); go_simp <;> with_reducible rfl
          (try simp only [Act.put, List.setIfInBounds_toArray, List.set_cons_zero, List.set_cons_succ])
          refine PX.wpAnyY_take (i := 2) (oi := ?_) (v := ?_) ?_ (by kernel_rfl) (by kernel_rfl) (by kernel_rfl) (by kernel_rfl) (by kernel_rfl) (fun _ _ _ h => h) (Or.inl ⟨?_, ?_⟩) (by assumption) ?_
          rotate_left 2
          · simp only [List.getElem?_toArray, List.getElem?_cons_succ, List.getElem?_cons_zero]; rfl
          · rfl
          · intro w hSw; (try dsimp only at hSw); have b0 := (BXA.out.here hSw).cell 0; have b1 := (BXA.out.here hSw).cell 1; have b2 := (BXA.out.here hSw).cell 2; have b3 := (BXA.out.here hSw).cell 3; simp only [List.getElem?_cons_zero, List.getElem?_cons_succ] at b0 b1 b2 b3; go_simp <;> with_reducible rfl
          (try simp only [Act.put, List.setIfInBounds_toArray, List.set_cons_zero, List.set_cons_succ])
          refine PX.wpAnyY_take (i := 3) (oi := ?_) (v := ?_) ?_ (by kernel_rfl) (by kernel_rfl) (by kernel_rfl) (by kernel_rfl) (by kernel_rfl) (fun _ _ _ h => h) (Or.inl ⟨?_, ?_⟩) (by assumption) ?_
          rotate_left 2
          · simp only [List.getElem?_toArray, List.getElem?_cons_succ, List.getElem?_cons_zero]; rfl
          · rfl
          · intro w hSw; (try dsimp only at hSw); go_simp <;> with_reducible rfl
          (try simp only [Act.put, List.setIfInBounds_toArray, List.set_cons_zero, List.set_cons_succ])
          refine PX.wpAnyY_take (i := 4) (oi := ?_) (v := ?_) ?_ (by kernel_rfl) (by kernel_rfl) (by kernel_rfl) (by kernel_rfl) (by kernel_rfl) (fun _ _ _ h => h) (Or.inl ⟨?_, ?_⟩) (by assumption) ?_
          rotate_left 2
          · simp only [List.getElem?_toArray, List.getElem?_cons_succ, List.getElem?_cons_zero]; rfl
          · rfl
          · intro w hSw; (try dsimp only at hSw); obtain ⟨k0, k1, k2⟩ := KD.out _ (thence ALA.out hSw (Nat.le_refl _)); go_simp <;> with_reducible rfl
          (try simp only [Act.put, List.setIfInBounds_toArray, List.set_cons_zero, List.set_cons_succ])
          refine PX.wpAnyY_take (i := 5) (oi := ?_) (v := ?_) ?_ (by kernel_rfl) (by kernel_rfl) (by kernel_rfl) (by kernel_rfl) (by kernel_rfl) (fun _ _ _ h => h) (Or.inl ⟨?_, ?_⟩) (by assumption) ?_
          rotate_left 2
          · simp only [List.getElem?_toArray, List.getElem?_cons_succ, List.getElem?_cons_zero]; rfl
          · rfl
          · intro w hSw; (try dsimp only at hSw); have b0 := (BXA.out.here hSw).cell 0; have b1 := (BXA.out.here hSw).cell 1; have b2 := (BXA.out.here hSw).cell 2; have b3 := (BXA.out.here hSw).cell 3; simp only [List.getElem?_cons_zero, List.getElem?_cons_succ] at b0 b1 b2 b3; go_simp <;> with_reducible rfl
          (try simp only [Act.put, List.setIfInBounds_toArray, List.set_cons_zero, List.set_cons_succ])
          refine PX.wpAnyY_two (i := 6) (j := 10) (o := ?_) (o' := ?_) (by kernel_rfl) ?_ ?_ (fun Kq hKq => ?_) (fun Kq hKq => ?_)
          rotate_left 2
          · simp only [List.getElem?_toArray, List.getElem?_cons_succ, List.getElem?_cons_zero]; rfl
          · simp only [List.getElem?_toArray, List.getElem?_cons_succ, List.getElem?_cons_zero]; rfl
          · go_simp
            have HH3 := Lib.hid (thence ALA.out hHeld (Nat.le_refl _))
            refine (CD.out _ HH3.out).mono ?_
            rintro e w4 ⟨⟨za, zn, zc, za', zn', zc', F⟩, rfl, hF, hor, b4⟩
            have B4 : Hid (Below W1.heap.size W1 w4) := thence hHeld b4 (Nat.le_refl _)
            have HFD := Lib.hid hF
            have HOR := Lib.hid hor
            have BB4 := Lib.hid b4
            clear b4 hF hor
            simp only [Dn.val]
            go_wp2_with fail
            refine hKq.out _ _ (B4.out) (fun hHeld => ?_)
            clear hKq Kq
            (try simp only [Act.put, List.setIfInBounds_toArray, List.set_cons_zero, List.set_cons_succ])
            refine PX.wpAnyY_take (i := 7) (oi := ?_) (v := ?_) ?_ (by kernel_rfl) (by kernel_rfl) (by kernel_rfl) (by kernel_rfl) (by kernel_rfl) (fun _ _ _ h => h) (Or.inl ⟨?_, ?_⟩) (by assumption) ?_
            rotate_left 2
            · simp only [List.getElem?_toArray, List.getElem?_cons_succ, List.getElem?_cons_zero]; rfl
            · rfl
            · intro w hSw; (try dsimp only at hSw); go_simp <;> with_reducible rfl
            (try simp only [Act.put, List.setIfInBounds_toArray, List.set_cons_zero, List.set_cons_succ])
            refine PX.wpAnyY_take (i := 8) (oi := ?_) (v := ?_) ?_ (by kernel_rfl) (by kernel_rfl) (by kernel_rfl) (by kernel_rfl) (by kernel_rfl) (fun _ _ _ h => h) (Or.inl ⟨?_, ?_⟩) (by assumption) ?_
            rotate_left 2
            · simp only [List.getElem?_toArray, List.getElem?_cons_succ, List.getElem?_cons_zero]; rfl
            · rfl
            · intro w hSw; (try dsimp only at hSw); go_simp <;> with_reducible rfl
            (try simp only [Act.put, List.setIfInBounds_toArray, List.set_cons_zero, List.set_cons_succ])
            refine PX.wpAnyY_take (i := 9) (oi := ?_) (v := ?_) ?_ (by kernel_rfl) (by kernel_rfl) (by kernel_rfl) (by kernel_rfl) (by kernel_rfl) (fun _ _ _ h => h) (Or.inl ⟨?_, ?_⟩) (by assumption) ?_
            rotate_left 2
            · simp only [List.getElem?_toArray, List.getElem?_cons_succ, List.getElem?_cons_zero]; rfl
            · rfl
            · intro w hSw; (try dsimp only at hSw); go_simp <;> with_reducible rfl
            (try simp only [Act.put, List.setIfInBounds_toArray, List.set_cons_zero, List.set_cons_succ])
            refine PX.wpAnyY_one (i := 10) (o := ?_) (by kernel_rfl) ?_ (fun Kq hKq => ?_)
            rotate_left
            · simp only [List.getElem?_toArray, List.getElem?_cons_succ, List.getElem?_cons_zero]; rfl
            go_simp
            refine hKq.out _ _ (B4.out.alloc B4.out.size _) (fun hHeld => ?_)
            clear hKq Kq
            (try simp only [Act.put, List.setIfInBounds_toArray, List.set_cons_zero, List.set_cons_succ])
            refine PX.wpAnyY_one (i := 11) (o := ?_) (by kernel_rfl) ?_ (fun Kq hKq => ?_)
            rotate_left
            · simp only [List.getElem?_toArray, List.getElem?_cons_succ, List.getElem?_cons_zero]; rfl
            go_simp
            refine hKq.out _ _ (B4.out.alloc B4.out.size _) (fun hHeld => ?_)
            clear hKq Kq
            (try simp only [Act.put, List.setIfInBounds_toArray, List.set_cons_zero, List.set_cons_succ])
            refine PX.wpAnyY_one (i := 12) (o := ?_) (by kernel_rfl) ?_ (fun Kq hKq => ?_)
            rotate_left
            · simp only [List.getElem?_toArray, List.getElem?_cons_succ, List.getElem?_cons_zero]; rfl
            go_simp
            refine hKq.out _ _ (B4.out.alloc B4.out.size _) (fun hHeld => ?_)
            clear hKq Kq
            (try simp only [Act.put, List.setIfInBounds_toArray, List.set_cons_zero, List.set_cons_succ])
            refine PX.wpAnyY_done (by kernel_rfl) ?_ _
            refine NoPanic.normal ?_
            have HS5 := Lib.hid (thence ALA.out hHeld (Nat.le_refl _))
            have hbx5 := Bx.new w4 [.slice za zn zc, .slice za' zn' zc', .bool F.dead] 37
            have al5 : Below w4.heap.size w4 (w4.alloc (.cells #[.slice za zn zc, .slice za' zn' zc', .bool F.dead] 37)) := (Below.refl _ _).alloc (Nat.le_refl _) _
            have HS5' := Lib.hid hHeld
            have yok5 := yok (g := w1.heap.size) OY.out HOR.out (.ofBelow HS5.out (Nat.le_refl _)) (.ofBelow al5 (Nat.le_refl _)) HS5.out.size al5.size (by have := HG.out; have := HH3.out.size; omega)
            clear al5
            generalize hW5 : w4.alloc (.cells #[.slice za zn zc, .slice za' zn' zc', .bool F.dead] 37) = W5 at *
            clear hW5
            have OY5 : Hid (OwnI (w1.heap.size + 1) W5.heap.size W5 ⟨za, zn, zc, za', zn', zc', F⟩) := yok5
            have HB5 := Lib.hid hbx5
            obtain ⟨z0, z1, z2⟩ := HB5.out.three
            have b0 := (BXA.out.here HS5'.out).cell 0
            simp only [List.getElem?_cons_zero] at b0
            have HOD5 := Lib.hid (HOD.out.here HS5.out)
            obtain ⟨k0, k1, k2⟩ := KD.out _ HS5.out
            have f0 := HOD5.out.bx.frozen (q * 3)
            have f1 := HOD5.out.bx.frozen (q * 3 + 1)
            have f2 := HOD5.out.bx.frozen (q * 3 + 2)
            go_wp2_with fail
            go_roundw
            case rel =>
              have h1 : OwnDs w1.heap.size (((W5.setCell ⟨w1.heap.size, q * 3, none⟩ (.slice za zn zc)).setCell ⟨w1.heap.size, q * 3 + 1, none⟩ (.slice za' zn' zc')).setCell ⟨w1.heap.size, q * 3 + 2, none⟩ (.bool F.dead)) (N.set q ⟨za, zn, zc, za', zn', zc', F⟩) := OwnDs.put (x := ⟨za, zn, zc, za', zn', zc', F⟩) HOD5.out HQN.out OY5.out
              have h2 : Below w.heap.size w (((W5.setCell ⟨w1.heap.size, q * 3, none⟩ (.slice za zn zc)).setCell ⟨w1.heap.size, q * 3 + 1, none⟩ (.slice za' zn' zc')).setCell ⟨w1.heap.size, q * 3 + 2, none⟩ (.bool F.dead)) := below_put (thence WB.out HS5.out (Nat.le_refl _)) B1.out.size _ _ _
              have h3 := run_step hlt HN.out HFD.out (HDM.out HE.out) HAL.out (by rw [devs_length]; have := HNL.out; have := HQN.out; omega) (za := za) (zn := zn) (zc := zc) (za' := za') (zn' := zn') (zc' := zc')
              exact ⟨k + 1, N.set q ⟨za, zn, zc, za', zn', zc', F⟩, h3.1, by go_num, h3.2.1, h3.2.2, h1, h2⟩
            case measure => simp [intOf]; omega
          · go_simp
            have BXZ := Lib.hid (Bx.new W1 [.slice none 0 0, .slice none 0 0, .bool false] 37).drew
            refine hKq.out _ _ (((Below.refl _ _).alloc (Nat.le_refl _) _).drew) (fun hHeld => ?_)
            clear hKq Kq
            (try simp only [Act.put, List.setIfInBounds_toArray, List.set_cons_zero, List.set_cons_succ])
            refine PX.wpAnyY_one (i := 6) (o := ?_) (by kernel_rfl) ?_ (fun Kq hKq => ?_)
            rotate_left
            · simp only [List.getElem?_toArray, List.getElem?_cons_succ, List.getElem?_cons_zero]; rfl
            go_simp
            have HH3 := Lib.hid (thence ALA.out hHeld (Nat.le_refl _))
            refine (CD.out _ HH3.out).mono ?_
            rintro e w4 ⟨⟨za, zn, zc, za', zn', zc', F⟩, rfl, hF, hor, b4⟩
            have B4 : Hid (Below W1.heap.size W1 w4) := thence hHeld b4 (Nat.le_refl _)
            have HFD := Lib.hid hF
            have HOR := Lib.hid hor
            have BB4 := Lib.hid b4
            clear b4 hF hor
            simp only [Dn.val]
            go_wp2_with fail
            refine hKq.out _ _ (B4.out) (fun hHeld => ?_)
            clear hKq Kq
            (try simp only [Act.put, List.setIfInBounds_toArray, List.set_cons_zero, List.set_cons_succ])
            refine PX.wpAnyY_take (i := 7) (oi := ?_) (v := ?_) ?_ (by kernel_rfl) (by kernel_rfl) (by kernel_rfl) (by kernel_rfl) (by kernel_rfl) (fun _ _ _ h => h) (Or.inl ⟨?_, ?_⟩) (by assumption) ?_
            rotate_left 2
            · simp only [List.getElem?_toArray, List.getElem?_cons_succ, List.getElem?_cons_zero]; rfl
            · rfl
            · intro w hSw; (try dsimp only at hSw); go_simp <;> with_reducible rfl
            (try simp only [Act.put, List.setIfInBounds_toArray, List.set_cons_zero, List.set_cons_succ])
            refine PX.wpAnyY_take (i := 8) (oi := ?_) (v := ?_) ?_ (by kernel_rfl) (by kernel_rfl) (by kernel_rfl) (by kernel_rfl) (by kernel_rfl) (fun _ _ _ h => h) (Or.inl ⟨?_, ?_⟩) (by assumption) ?_
            rotate_left 2
            · simp only [List.getElem?_toArray, List.getElem?_cons_succ, List.getElem?_cons_zero]; rfl
            · rfl
            · intro w hSw; (try dsimp only at hSw); go_simp <;> with_reducible rfl
            (try simp only [Act.put, List.setIfInBounds_toArray, List.set_cons_zero, List.set_cons_succ])
            refine PX.wpAnyY_take (i := 9) (oi := ?_) (v := ?_) ?_ (by kernel_rfl) (by kernel_rfl) (by kernel_rfl) (by kernel_rfl) (by kernel_rfl) (fun _ _ _ h => h) (Or.inl ⟨?_, ?_⟩) (by assumption) ?_
            rotate_left 2
            · simp only [List.getElem?_toArray, List.getElem?_cons_succ, List.getElem?_cons_zero]; rfl
            · rfl
            · intro w hSw; (try dsimp only at hSw); go_simp <;> with_reducible rfl
            (try simp only [Act.put, List.setIfInBounds_toArray, List.set_cons_zero, List.set_cons_succ])
            refine PX.wpAnyY_one (i := 11) (o := ?_) (by kernel_rfl) ?_ (fun Kq hKq => ?_)
            rotate_left
            · simp only [List.getElem?_toArray, List.getElem?_cons_succ, List.getElem?_cons_zero]; rfl
            have bz : Bx w4 W1.heap.size [.slice none 0 0, .slice none 0 0, .bool false] := BXZ.out.here BB4.out
            obtain ⟨q0, q1, q2⟩ := bz.three
            have f0 := bz.frozen 0
            have f1 := bz.frozen 1
            have f2 := bz.frozen 2
            go_simp
            refine hKq.out _ _ (((B4.out.setCell (p := ⟨W1.heap.size, 0, none⟩) (Nat.le_refl _) _).setCell (p := ⟨W1.heap.size, 1, none⟩) (Nat.le_refl _) _).setCell (p := ⟨W1.heap.size, 2, none⟩) (Nat.le_refl _) _) (fun hHeld => ?_)
            clear hKq Kq
            (try simp only [Act.put, List.setIfInBounds_toArray, List.set_cons_zero, List.set_cons_succ])
            refine PX.wpAnyY_one (i := 12) (o := ?_) (by kernel_rfl) ?_ (fun Kq hKq => ?_)
            rotate_left
            · simp only [List.getElem?_toArray, List.getElem?_cons_succ, List.getElem?_cons_zero]; rfl
            go_simp
            refine hKq.out _ _ (((B4.out.setCell (p := ⟨W1.heap.size, 0, none⟩) (Nat.le_refl _) _).setCell (p := ⟨W1.heap.size, 1, none⟩) (Nat.le_refl _) _).setCell (p := ⟨W1.heap.size, 2, none⟩) (Nat.le_refl _) _) (fun hHeld => ?_)
            clear hKq Kq
            (try simp only [Act.put, List.setIfInBounds_toArray, List.set_cons_zero, List.set_cons_succ])
            refine PX.wpAnyY_done (by kernel_rfl) ?_ _
            refine NoPanic.normal ?_
            have HS5 := Lib.hid (thence ALA.out hHeld (Nat.le_refl _))
            have bz5 : Bx w4 W1.heap.size [.slice none 0 0, .slice none 0 0, .bool false] := BXZ.out.here BB4.out
            have hbx5 := ((bz5.set 0 (.slice za zn zc)).set 1 (.slice za' zn' zc')).set 2 (.bool F.dead)
            have HS5' := Lib.hid hHeld
            have lt3 : W1.heap.size < (W1.alloc (.cells #[.slice none 0 0, .slice none 0 0, .bool false] 37)).drew.heap.size := by simp
            have s5 : Stays (W1.alloc (.cells #[.slice none 0 0, .slice none 0 0, .bool false] 37)).drew.heap.size w4.heap.size w4 (((w4.setCell ⟨W1.heap.size, 0, none⟩ (.slice za zn zc)).setCell ⟨W1.heap.size, 1, none⟩ (.slice za' zn' zc')).setCell ⟨W1.heap.size, 2, none⟩ (.bool F.dead)) := ((Stays.setCell (w := w4) ⟨W1.heap.size, 0, none⟩ _ (.inl lt3)).trans (Stays.setCell ⟨W1.heap.size, 1, none⟩ _ (.inl lt3))).trans (Stays.setCell ⟨W1.heap.size, 2, none⟩ _ (.inl lt3))
            have yok5 := yok (g := w1.heap.size) OY.out HOR.out (.ofBelow HS5.out (Nat.le_refl _)) s5 HS5.out.size (by simp [World.setCell]) (by have := HG.out; have := HH3.out.size; omega)
            clear s5 lt3
            generalize hW5 : ((w4.setCell ⟨W1.heap.size, 0, none⟩ (.slice za zn zc)).setCell ⟨W1.heap.size, 1, none⟩ (.slice za' zn' zc')).setCell ⟨W1.heap.size, 2, none⟩ (.bool F.dead) = W5 at *
            clear hW5
            have OY5 : Hid (OwnI (w1.heap.size + 1) W5.heap.size W5 ⟨za, zn, zc, za', zn', zc', F⟩) := yok5
            have HB5 := Lib.hid hbx5
            obtain ⟨z0, z1, z2⟩ := HB5.out.three
            have b0 := (BXA.out.here HS5'.out).cell 0
            simp only [List.getElem?_cons_zero] at b0
            have HOD5 := Lib.hid (HOD.out.here HS5.out)
            obtain ⟨k0, k1, k2⟩ := KD.out _ HS5.out
            have f0 := HOD5.out.bx.frozen (q * 3)
            have f1 := HOD5.out.bx.frozen (q * 3 + 1)
            have f2 := HOD5.out.bx.frozen (q * 3 + 2)
            go_wp2_with fail
            go_roundw
            case rel =>
              have h1 : OwnDs w1.heap.size (((W5.setCell ⟨w1.heap.size, q * 3, none⟩ (.slice za zn zc)).setCell ⟨w1.heap.size, q * 3 + 1, none⟩ (.slice za' zn' zc')).setCell ⟨w1.heap.size, q * 3 + 2, none⟩ (.bool F.dead)) (N.set q ⟨za, zn, zc, za', zn', zc', F⟩) := OwnDs.put (x := ⟨za, zn, zc, za', zn', zc', F⟩) HOD5.out HQN.out OY5.out
              have h2 : Below w.heap.size w (((W5.setCell ⟨w1.heap.size, q * 3, none⟩ (.slice za zn zc)).setCell ⟨w1.heap.size, q * 3 + 1, none⟩ (.slice za' zn' zc')).setCell ⟨w1.heap.size, q * 3 + 2, none⟩ (.bool F.dead)) := below_put (thence WB.out HS5.out (Nat.le_refl _)) B1.out.size _ _ _
              have h3 := run_step hlt HN.out HFD.out (HDM.out HE.out) HAL.out (by rw [devs_length]; have := HNL.out; have := HQN.out; omega) (za := za) (zn := zn) (zc := zc) (za' := za') (zn' := zn') (zc' := zc')
              exact ⟨k + 1, N.set q ⟨za, zn, zc, za', zn', zc', F⟩, h3.1, by go_num, h3.2.1, h3.2.2, h1, h2⟩
            case measure => simp [intOf]; omega
      · obtain rfl : k = m := by omega
        have e9 : AK.ncode (devs L) (acs M) (k : Int) AK.did = 0 := by rw [HC.out, HGO.out]; rfl
        have er : AK.ran (devs L) (acs M) (k : Int) AK.did = devs N := by simp [AK.ran, e9, HGO.out]
        have hlenM : N.length = M0.length := by
          have h1 := HM0.out
          have h2 : (devs M0).length = (devs L).length := by rw [h1]
          have h3 := HAL.out.len
          rw [devs_length, devs_length] at h2 h3
          omega
        have E9 := Lib.hid e9
        have ER := Lib.hid er
        clear e9 er
        go_wp2_with fail
        go_ret2
        exact ⟨.slice (some ⟨w1.heap.size, 0, none⟩) M0.length M0.length, by rw [E9.out]; rfl, by rw [ER.out, ← hlenM]; exact NewDs.of HOD.out hg1 (by have := HAL.out.len; rw [devs_length, devs_length] at this; omega), WB.out⟩
end Go.Proofs.Ytnhfkfihlkbkfaa.PW
