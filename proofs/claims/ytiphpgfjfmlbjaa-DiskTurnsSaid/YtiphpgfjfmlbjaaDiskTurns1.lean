/-
  DiskTurns' walk: a device behind a write, one that lasts, a flush, and its death.
-/
import Derived.Test.YtiphpgfjfmlbjaaDiskSpoil
namespace Go.Proofs.Ytiphpgfjfmlbjaa.PW
open Go.RowKit
open DK (Dv)
set_option linter.unusedVariables false
set_option linter.unusedSimpArgs false

set_option maxRecDepth 100000 in
set_option maxHeartbeats 1000000 in
theorem turns_great (a : Option Addr) (n c : Nat) (a' : Option Addr) (n' c' : Nat) (D : Dv) (at_ : Int) (b : Option Addr) (len cap : Nat) (l : List Nat) (w : World) (hr : DevAt w.heap.size w a n c a' n' c' D) (hq : Rd w.heap.size w b len cap l) (hg : DK.great D = true) :
    Calls Try.prog 5 #[.agg #[.slice a n c, .slice a' n' c', .bool D.dead], .int .i64 at_, .slice b len cap] w fun e w' => e = .returned (.bool true) ∧ Below w.heap.size w w' := by
  have hb1 : Below w.heap.size w (w.alloc (.cells #[.slice a n c, .slice a' n' c', .bool D.dead] 25)) := (Below.refl _ _).alloc (Nat.le_refl _) _
  have bD := Bx.new w [.slice a n c, .slice a' n' c', .bool D.dead] 25
  have CG : Hid (∀ w1, Below w.heap.size w w1 → Calls Try.prog 16 #[.agg #[.slice a n c, .slice a' n' c', .bool D.dead]] w1 fun e w' => e = .returned (.bool (DK.great D)) ∧ Below w1.heap.size w1 w') := fun w1 h => great_any a n c a' n' c' D w1 (hr.here h)
  have HB := Lib.hid hb1
  have BD := Lib.hid bD
  have hls : len ≤ 9223372036854775807 := by have h1 := hq.long; have h2 := hq.fits; have h3 := hq.small; unfold maxLen at h3; omega
  have HL := Lib.hid hq.long
  clear hb1 bD hr hq
  rw [hg] at CG
  clear hg
  generalize D.dead = dd at *
  go_enter Try.func5, Try.ntmps5
  go_wp2_with fail
  refine (CG.out _ HB.out).mono ?_
  rintro e w2 ⟨rfl, b2⟩
  have BD2 := Lib.hid (BD.out.here b2)
  obtain ⟨d0, d1, d2⟩ := BD2.out.three
  have HB2 := Lib.hid (thence HB.out b2 (Nat.le_refl _))
  clear b2
  go_wp2_with fail
  go_ret
  exact ⟨rfl, HB2.out⟩

set_option maxRecDepth 100000 in
set_option maxHeartbeats 1000000 in
theorem turns_long (a : Option Addr) (n c : Nat) (a' : Option Addr) (n' c' : Nat) (D : Dv) (at_ : Int) (b : Option Addr) (len cap : Nat) (l : List Nat) (w : World) (hr : DevAt w.heap.size w a n c a' n' c' D) (hq : Rd w.heap.size w b len cap l) (hg : DK.great D = false) (hl : 1000 < l.length) :
    Calls Try.prog 5 #[.agg #[.slice a n c, .slice a' n' c', .bool D.dead], .int .i64 at_, .slice b len cap] w fun e w' => e = .returned (.bool true) ∧ Below w.heap.size w w' := by
  have hb1 : Below w.heap.size w (w.alloc (.cells #[.slice a n c, .slice a' n' c', .bool D.dead] 25)) := (Below.refl _ _).alloc (Nat.le_refl _) _
  have bD := Bx.new w [.slice a n c, .slice a' n' c', .bool D.dead] 25
  have CG : Hid (∀ w1, Below w.heap.size w w1 → Calls Try.prog 16 #[.agg #[.slice a n c, .slice a' n' c', .bool D.dead]] w1 fun e w' => e = .returned (.bool (DK.great D)) ∧ Below w1.heap.size w1 w') := fun w1 h => great_any a n c a' n' c' D w1 (hr.here h)
  have HB := Lib.hid hb1
  have BD := Lib.hid bD
  have hls : len ≤ 9223372036854775807 := by have h1 := hq.long; have h2 := hq.fits; have h3 := hq.small; unfold maxLen at h3; omega
  have HL := Lib.hid hq.long
  clear hb1 bD hr hq
  rw [hg] at CG
  have i1 : (1000 : Int) < (len : Int) := by have := HL.out; omega
  clear hg
  generalize D.dead = dd at *
  go_enter Try.func5, Try.ntmps5
  go_wp2_with fail
  refine (CG.out _ HB.out).mono ?_
  rintro e w2 ⟨rfl, b2⟩
  have BD2 := Lib.hid (BD.out.here b2)
  obtain ⟨d0, d1, d2⟩ := BD2.out.three
  have HB2 := Lib.hid (thence HB.out b2 (Nat.le_refl _))
  clear b2
  go_wp2_with fail
  go_ret
  exact ⟨rfl, HB2.out⟩

set_option maxRecDepth 100000 in
set_option maxHeartbeats 4000000 in
theorem turns_main (a : Option Addr) (n c : Nat) (a' : Option Addr) (n' c' : Nat) (D : Dv) (at_ : Int) (b : Option Addr) (len cap : Nat) (l : List Nat) (w : World) (hr : DevAt w.heap.size w a n c a' n' c' D) (hq : Rd w.heap.size w b len cap l) (hg : DK.great D = false) (hl : l.length ≤ 1000) :
    Calls Try.prog 5 #[.agg #[.slice a n c, .slice a' n' c', .bool D.dead], .int .i64 at_, .slice b len cap] w fun e w' => e = .returned (.bool true) ∧ Below w.heap.size w w' := by
  have hb1 : Below w.heap.size w (w.alloc (.cells #[.slice a n c, .slice a' n' c', .bool D.dead] 25)) := (Below.refl _ _).alloc (Nat.le_refl _) _
  have bD := Bx.new w [.slice a n c, .slice a' n' c', .bool D.dead] 25
  have CG : Hid (∀ w1, Below w.heap.size w w1 → Calls Try.prog 16 #[.agg #[.slice a n c, .slice a' n' c', .bool D.dead]] w1 fun e w' => e = .returned (.bool (DK.great D)) ∧ Below w1.heap.size w1 w') := fun w1 h => great_any a n c a' n' c' D w1 (hr.here h)
  have HB := Lib.hid hb1
  have BD := Lib.hid bD
  have hls : len ≤ 9223372036854775807 := by have h1 := hq.long; have h2 := hq.fits; have h3 := hq.small; unfold maxLen at h3; omega
  have HL := Lib.hid hq.long
  have hf := fit_of hg
  have hby : Dv.Byt D := hr.bytes
  have hll : l.length ≤ 100000 := by omega
  rw [hg] at CG
  have CT : Hid (∀ w1, Below w.heap.size w w1 → Calls Try.prog 17 #[.agg #[.slice a n c, .slice a' n' c', .bool D.dead]] w1 (TheDev w1 D)) := fun w1 h => refTwin_any a n c a' n' c' D w1 (hr.here h) hf
  have Hr := Lib.hid hr
  have Hq := Lib.hid hq
  have i1 : ¬ (1000 : Int) < (len : Int) := by have := HL.out; omega
  clear hb1 bD hr hq hg hl
  obtain ⟨dd, hdd⟩ : ∃ dd, dd = D.dead := ⟨_, rfl⟩
  have HDD := Lib.hid hdd
  rw [← hdd] at CG CT BD HB ⊢
  clear hdd
  go_enter Try.func5, Try.ntmps5
  go_wp2_with fail
  refine (CG.out _ HB.out).mono ?_
  rintro e w2 ⟨rfl, b2⟩
  have BD2 := Lib.hid (BD.out.here b2)
  obtain ⟨d0, d1, d2⟩ := BD2.out.three
  have HB2 := Lib.hid (thence HB.out b2 (Nat.le_refl _))
  clear b2
  go_wp2_with fail
  refine (CT.out _ HB2.out).mono ?_
  rintro e w3 ⟨v, rfl, od, b3⟩
  obtain ⟨ao, no, co, ao', no', co', rfl, ato⟩ := od.at
  rw [← HDD.out]
  have al3 : Below w3.heap.size w3 (w3.alloc (.cells [Value.slice ao no co, .slice ao' no' co', .bool dd].toArray 25)) := (Below.refl _ _).alloc (Nat.le_refl _) _
  have BXo := Lib.hid (Bx.new w3 [.slice ao no co, .slice ao' no' co', .bool dd] 25)
  have BXd := Lib.hid ((BD2.out.here b3).here al3)
  have HBo : Hid (Below w.heap.size w (w3.alloc (.cells [Value.slice ao no co, .slice ao' no' co', .bool dd].toArray 25))) := thence (thence HB2.out b3 (Nat.le_refl _)) al3 (Nat.le_refl _)
  have ATo := Lib.hid (ato.here al3)
  have ATd : Hid (DevAt _ _ a n c a' n' c' D) := Hr.out.here HBo.out
  have RDo : Hid (Rd _ _ b len cap l) := Hq.out.here HBo.out
  have T0 := text_is _ _ _ _ _ RDo.out
  obtain ⟨s0, hs0⟩ : ∃ s0, s0 = str l := ⟨_, rfl⟩
  have HS0 := Lib.hid hs0
  rw [← hs0] at T0
  clear al3 ato od b3 BD2 HB2 hs0
  go_wp2_with fail
  generalize hWo : w3.alloc (.cells #[.slice ao no co, .slice ao' no' co', .bool dd] 25) = Wo
  replace BXo : Hid (Bx Wo w3.heap.size [.slice ao no co, .slice ao' no' co', .bool dd]) := by rw [← hWo]; exact BXo.out
  replace BXd : Hid (Bx Wo w.heap.size [.slice a n c, .slice a' n' c', .bool dd]) := by rw [← hWo]; exact BXd.out
  replace HBo : Hid (Below w.heap.size w Wo) := by rw [← hWo]; exact HBo.out
  replace ATo : Hid (DevAt Wo.heap.size Wo ao no co ao' no' co' D) := by rw [← hWo]; exact ATo.out
  replace ATd : Hid (DevAt Wo.heap.size Wo a n c a' n' c' D) := by rw [← hWo]; exact ATd.out
  replace RDo : Hid (Rd Wo.heap.size Wo b len cap l) := by rw [← hWo]; exact RDo.out
  clear hWo T0
  have C1 : Hid (∀ w1, Below Wo.heap.size Wo w1 → Calls Try.prog 11 #[.agg #[.slice ao no co, .slice ao' no' co', .bool dd], .int .i64 at_, .slice b len cap] w1 (NewDev w1 (writeDev D at_ l) (DK.wcode' D at_ l))) := fun w1 h => by
    have := write_any ao no co ao' no' co' D at_ b len cap l w1 (ATo.out.here h) hf (RDo.out.here h) hll
    rw [← HDD.out] at this; exact this
  have C2 : Hid (∀ w1, Below Wo.heap.size Wo w1 → Calls Try.prog 27 #[.agg #[.slice a n c, .slice a' n' c', .bool dd], .int .i64 at_, .slice b len cap] w1 (NewDev w1 (rwriteD D at_ l) (DK.wcode' D at_ l))) := fun w1 h => by
    have := refWrite_any a n c a' n' c' D at_ b len cap l w1 (ATd.out.here h) hf (RDo.out.here h) hll
    rw [← HDD.out] at this; exact this
  have C3 : Hid (∀ w1, Below Wo.heap.size Wo w1 → Calls Try.prog 28 #[.agg #[.slice ao no co, .slice ao' no' co', .bool dd], .int .i64 at_, .slice b len cap] w1 (NewDev w1 (fuaDev D at_ l) (DK.wcode D at_ l))) := fun w1 h => by
    have := fua_any ao no co ao' no' co' D at_ b len cap l w1 (ATo.out.here h) hf (RDo.out.here h) hll
    rw [← HDD.out] at this; exact this
  have C4 : Hid (∀ w1, Below Wo.heap.size Wo w1 → Calls Try.prog 29 #[.agg #[.slice a n c, .slice a' n' c', .bool dd], .int .i64 at_, .slice b len cap] w1 (NewDev w1 (rfuaD D at_ l) (DK.wcode D at_ l))) := fun w1 h => by
    have := refFua_any a n c a' n' c' D at_ b len cap l w1 (ATd.out.here h) hf (RDo.out.here h) hll
    rw [← HDD.out] at this; exact this
  have C5 : Hid (∀ w1, Below Wo.heap.size Wo w1 → Calls Try.prog 30 #[.agg #[.slice ao no co, .slice ao' no' co', .bool dd]] w1 (NewDev w1 (flushDev D) (DK.fcode D))) := fun w1 h => by
    have := flush_any ao no co ao' no' co' D w1 (ATo.out.here h) hf
    rw [← HDD.out] at this; exact this
  have C6 : Hid (∀ w1, Below Wo.heap.size Wo w1 → Calls Try.prog 31 #[.agg #[.slice a n c, .slice a' n' c', .bool dd]] w1 (NewDev w1 (rflushDev D) (DK.fcode D))) := fun w1 h => by
    have := refFlush_any a n c a' n' c' D w1 (ATd.out.here h) hf
    rw [← HDD.out] at this; exact this
  have C7 : Hid (∀ w1, Below Wo.heap.size Wo w1 → Calls Try.prog 13 #[.agg #[.slice ao no co, .slice ao' no' co', .bool dd]] w1 (NewDev w1 (killDev D) (DK.kcode D))) := fun w1 h => by
    have := kill_any ao no co ao' no' co' D w1 (ATo.out.here h)
    rw [← HDD.out] at this; exact this
  have C8 : Hid (∀ w1, Below Wo.heap.size Wo w1 → Calls Try.prog 32 #[.agg #[.slice a n c, .slice a' n' c', .bool dd]] w1 (NewDev w1 (killDev D) (DK.kcode D))) := fun w1 h => by
    have := refKill_any a n c a' n' c' D w1 (ATd.out.here h)
    rw [← HDD.out] at this; exact this
  have S1 : Hid (∀ w1 a n c a' n' c' b m d b' m' d', DevAt w1.heap.size w1 a n c a' n' c' (writeDev D at_ l) → DevAt w1.heap.size w1 b m d b' m' d' (rwriteD D at_ l) → Calls Try.prog 23 #[.agg #[.slice a n c, .slice a' n' c', .bool (writeDev D at_ l).dead], .agg #[.slice b m d, .slice b' m' d', .bool (rwriteD D at_ l).dead]] w1 fun e w' => e = .returned (.bool true) ∧ Below w1.heap.size w1 w') := fun w1 a n c a' n' c' b m d b' m' d' h1 h2 => by
    have := refSame_any a n c a' n' c' (writeDev D at_ l) b m d b' m' d' (rwriteD D at_ l) w1 h1 h2 (fit_write D at_ l) (fit_rwrite at_ l)
    rw [same_write D at_ l] at this; exact this
  have S2 : Hid (∀ w1 a n c a' n' c' b m d b' m' d', DevAt w1.heap.size w1 a n c a' n' c' (fuaDev D at_ l) → DevAt w1.heap.size w1 b m d b' m' d' (rfuaD D at_ l) → Calls Try.prog 23 #[.agg #[.slice a n c, .slice a' n' c', .bool (fuaDev D at_ l).dead], .agg #[.slice b m d, .slice b' m' d', .bool (rfuaD D at_ l).dead]] w1 fun e w' => e = .returned (.bool true) ∧ Below w1.heap.size w1 w') := fun w1 a n c a' n' c' b m d b' m' d' h1 h2 => by
    have := refSame_any a n c a' n' c' (fuaDev D at_ l) b m d b' m' d' (rfuaD D at_ l) w1 h1 h2 (fit_fua D at_ l) (fit_rfua at_ l)
    rw [same_fua D at_ l] at this; exact this
  have S3 : Hid (∀ w1 a n c a' n' c' b m d b' m' d', DevAt w1.heap.size w1 a n c a' n' c' (flushDev D) → DevAt w1.heap.size w1 b m d b' m' d' (rflushDev D) → Calls Try.prog 23 #[.agg #[.slice a n c, .slice a' n' c', .bool (flushDev D).dead], .agg #[.slice b m d, .slice b' m' d', .bool (rflushDev D).dead]] w1 fun e w' => e = .returned (.bool true) ∧ Below w1.heap.size w1 w') := fun w1 a n c a' n' c' b m d b' m' d' h1 h2 => by
    have := refSame_any a n c a' n' c' (flushDev D) b m d b' m' d' (rflushDev D) w1 h1 h2 (fit_flush D) (fit_rflush hby)
    rw [same_flush D] at this; exact this
  have S4 : Hid (∀ w1 a n c a' n' c' b m d b' m' d', DevAt w1.heap.size w1 a n c a' n' c' (killDev D) → DevAt w1.heap.size w1 b m d b' m' d' (killDev D) → Calls Try.prog 23 #[.agg #[.slice a n c, .slice a' n' c', .bool (killDev D).dead], .agg #[.slice b m d, .slice b' m' d', .bool (killDev D).dead]] w1 fun e w' => e = .returned (.bool true) ∧ Below w1.heap.size w1 w') := fun w1 a n c a' n' c' b m d b' m' d' h1 h2 => by
    have := refSame_any a n c a' n' c' (killDev D) b m d b' m' d' (killDev D) w1 h1 h2 (fit_kill D) (fit_kill D)
    rw [DK.same_self _] at this; exact this
  have SO : Hid (∀ w1, Below Wo.heap.size Wo w1 → Calls Try.prog 23 #[.agg #[.slice ao no co, .slice ao' no' co', .bool dd], .agg #[.slice a n c, .slice a' n' c', .bool dd]] w1 fun e w' => e = .returned (.bool true) ∧ Below w1.heap.size w1 w') := fun w1 h => by
    have := refSame_any ao no co ao' no' co' D a n c a' n' c' D w1 (ATo.out.here h) (ATd.out.here h) hf hf
    rw [DK.same_self, ← HDD.out] at this; exact this
  clear ATo ATd Hr Hq hf hby hll CG CT HDD
  generalize writeDev D at_ l = E1 at *
  generalize rwriteD D at_ l = F1 at *
  generalize fuaDev D at_ l = E2 at *
  generalize rfuaD D at_ l = F2 at *
  generalize flushDev D = E3 at *
  generalize rflushDev D = F3 at *
  obtain ⟨E4, hE4⟩ : ∃ E, E = killDev D := ⟨_, rfl⟩
  rw [← hE4] at C7 C8 S4
  clear hE4
  generalize DK.wcode' D at_ l = k1 at *
  generalize DK.wcode D at_ l = k2 at *
  generalize DK.fcode D = k3 at *
  generalize DK.kcode D = k4 at *
  have CHo : Hid (Below Wo.heap.size Wo Wo) := Below.refl _ _
  obtain ⟨p0, p1, p2⟩ := (BXo.out.here CHo.out).three
  go_wp2_with fail
  refine (C1.out _ CHo.out).mono ?_
  intro e w11 hn
  obtain ⟨a1, n1, c1, a1', n1', c1', rfl, od, atj, bj⟩ := hn.open
  have CHo := Lib.hid (thence CHo.out bj (Nat.le_refl _))
  have Z1 : Hid (Wo.heap.size ≤ w11.heap.size) := bj.size
  have ms := MaySpoil.of od
  obtain ⟨p0, p1, p2⟩ := (BXd.out.here CHo.out).three
  have lg := (BXd.out.here CHo.out).lt
  have al : Below w11.heap.size w11 (w11.alloc (.cells [Value.slice a1 n1 c1, .slice a1' n1' c1', .bool E1.dead].toArray 25)) := (Below.refl _ _).alloc (Nat.le_refl _) _
  have BX1 : Hid (Bx (w11.alloc (.cells [Value.slice a1 n1 c1, .slice a1' n1' c1', .bool E1.dead].toArray 25)) w11.heap.size [.slice a1 n1 c1, .slice a1' n1' c1', .bool E1.dead]) := Bx.new w11 _ _
  have AT1 := Lib.hid (atj.here al)
  have MS1 := Lib.hid (ms.grow al)
  have CHo := Lib.hid (thence CHo.out al (Nat.le_refl _))
  have CH1 : Hid (Below (w11.alloc (.cells [Value.slice a1 n1 c1, .slice a1' n1' c1', .bool E1.dead].toArray 25)).heap.size (w11.alloc (.cells [Value.slice a1 n1 c1, .slice a1' n1' c1', .bool E1.dead].toArray 25)) (w11.alloc (.cells [Value.slice a1 n1 c1, .slice a1' n1' c1', .bool E1.dead].toArray 25))) := Below.refl _ _
  clear hn od atj bj al ms
  go_wp2_with fail
  refine (C2.out _ CHo.out).mono ?_
  intro e w12 hn
  obtain ⟨a2, n2, c2, a2', n2', c2', rfl, od, atj, bj⟩ := hn.open
  have CHo := Lib.hid (thence CHo.out bj (Nat.le_refl _))
  have CH1 := Lib.hid (thence CH1.out bj (Nat.le_refl _))
  have Z2 : Hid (w11.heap.size ≤ w12.heap.size) := by show _ ≤ _; have h1 := bj.size; simp only [World.size_alloc] at h1; omega
  obtain ⟨p0, p1, p2⟩ := (BXo.out.here CHo.out).three
  have lg := (BXo.out.here CHo.out).lt
  have al : Below w12.heap.size w12 (w12.alloc (.cells [Value.slice a2 n2 c2, .slice a2' n2' c2', .bool F1.dead].toArray 25)) := (Below.refl _ _).alloc (Nat.le_refl _) _
  have BX2 : Hid (Bx (w12.alloc (.cells [Value.slice a2 n2 c2, .slice a2' n2' c2', .bool F1.dead].toArray 25)) w12.heap.size [.slice a2 n2 c2, .slice a2' n2' c2', .bool F1.dead]) := Bx.new w12 _ _
  have AT2 := Lib.hid (atj.here al)
  have CHo := Lib.hid (thence CHo.out al (Nat.le_refl _))
  have CH1 := Lib.hid (thence CH1.out al (Nat.le_refl _))
  have CH2 : Hid (Below (w12.alloc (.cells [Value.slice a2 n2 c2, .slice a2' n2' c2', .bool F1.dead].toArray 25)).heap.size (w12.alloc (.cells [Value.slice a2 n2 c2, .slice a2' n2' c2', .bool F1.dead].toArray 25)) (w12.alloc (.cells [Value.slice a2 n2 c2, .slice a2' n2' c2', .bool F1.dead].toArray 25))) := Below.refl _ _
  clear hn od atj bj al
  go_wp2_with fail
  refine (C3.out _ CHo.out).mono ?_
  intro e w13 hn
  obtain ⟨a3, n3, c3, a3', n3', c3', rfl, od, atj, bj⟩ := hn.open
  have CHo := Lib.hid (thence CHo.out bj (Nat.le_refl _))
  have CH1 := Lib.hid (thence CH1.out bj (Nat.le_refl _))
  have CH2 := Lib.hid (thence CH2.out bj (Nat.le_refl _))
  have Z3 : Hid (w12.heap.size ≤ w13.heap.size) := by show _ ≤ _; have h1 := bj.size; simp only [World.size_alloc] at h1; omega
  have ms := MaySpoil.of od
  simp only [World.size_alloc] at ms
  obtain ⟨p0, p1, p2⟩ := (BXd.out.here CHo.out).three
  have lg := (BXd.out.here CHo.out).lt
  have al : Below w13.heap.size w13 (w13.alloc (.cells [Value.slice a3 n3 c3, .slice a3' n3' c3', .bool E2.dead].toArray 25)) := (Below.refl _ _).alloc (Nat.le_refl _) _
  have BX3 : Hid (Bx (w13.alloc (.cells [Value.slice a3 n3 c3, .slice a3' n3' c3', .bool E2.dead].toArray 25)) w13.heap.size [.slice a3 n3 c3, .slice a3' n3' c3', .bool E2.dead]) := Bx.new w13 _ _
  have AT3 := Lib.hid (atj.here al)
  have MS3 := Lib.hid (ms.grow al)
  have CHo := Lib.hid (thence CHo.out al (Nat.le_refl _))
  have CH1 := Lib.hid (thence CH1.out al (Nat.le_refl _))
  have CH2 := Lib.hid (thence CH2.out al (Nat.le_refl _))
  have CH3 : Hid (Below (w13.alloc (.cells [Value.slice a3 n3 c3, .slice a3' n3' c3', .bool E2.dead].toArray 25)).heap.size (w13.alloc (.cells [Value.slice a3 n3 c3, .slice a3' n3' c3', .bool E2.dead].toArray 25)) (w13.alloc (.cells [Value.slice a3 n3 c3, .slice a3' n3' c3', .bool E2.dead].toArray 25))) := Below.refl _ _
  clear hn od atj bj al ms
  go_wp2_with fail
  refine (C4.out _ CHo.out).mono ?_
  intro e w14 hn
  obtain ⟨a4, n4, c4, a4', n4', c4', rfl, od, atj, bj⟩ := hn.open
  have CHo := Lib.hid (thence CHo.out bj (Nat.le_refl _))
  have CH1 := Lib.hid (thence CH1.out bj (Nat.le_refl _))
  have CH2 := Lib.hid (thence CH2.out bj (Nat.le_refl _))
  have CH3 := Lib.hid (thence CH3.out bj (Nat.le_refl _))
  have Z4 : Hid (w13.heap.size ≤ w14.heap.size) := by show _ ≤ _; have h1 := bj.size; simp only [World.size_alloc] at h1; omega
  obtain ⟨p0, p1, p2⟩ := (BXo.out.here CHo.out).three
  have lg := (BXo.out.here CHo.out).lt
  have al : Below w14.heap.size w14 (w14.alloc (.cells [Value.slice a4 n4 c4, .slice a4' n4' c4', .bool F2.dead].toArray 25)) := (Below.refl _ _).alloc (Nat.le_refl _) _
  have BX4 : Hid (Bx (w14.alloc (.cells [Value.slice a4 n4 c4, .slice a4' n4' c4', .bool F2.dead].toArray 25)) w14.heap.size [.slice a4 n4 c4, .slice a4' n4' c4', .bool F2.dead]) := Bx.new w14 _ _
  have AT4 := Lib.hid (atj.here al)
  have CHo := Lib.hid (thence CHo.out al (Nat.le_refl _))
  have CH1 := Lib.hid (thence CH1.out al (Nat.le_refl _))
  have CH2 := Lib.hid (thence CH2.out al (Nat.le_refl _))
  have CH3 := Lib.hid (thence CH3.out al (Nat.le_refl _))
  have CH4 : Hid (Below (w14.alloc (.cells [Value.slice a4 n4 c4, .slice a4' n4' c4', .bool F2.dead].toArray 25)).heap.size (w14.alloc (.cells [Value.slice a4 n4 c4, .slice a4' n4' c4', .bool F2.dead].toArray 25)) (w14.alloc (.cells [Value.slice a4 n4 c4, .slice a4' n4' c4', .bool F2.dead].toArray 25))) := Below.refl _ _
  clear hn od atj bj al
  go_wp2_with fail
  refine (C5.out _ CHo.out).mono ?_
  intro e w15 hn
  obtain ⟨a5, n5, c5, a5', n5', c5', rfl, od, atj, bj⟩ := hn.open
  have CHo := Lib.hid (thence CHo.out bj (Nat.le_refl _))
  have CH1 := Lib.hid (thence CH1.out bj (Nat.le_refl _))
  have CH2 := Lib.hid (thence CH2.out bj (Nat.le_refl _))
  have CH3 := Lib.hid (thence CH3.out bj (Nat.le_refl _))
  have CH4 := Lib.hid (thence CH4.out bj (Nat.le_refl _))
  have Z5 : Hid (w14.heap.size ≤ w15.heap.size) := by show _ ≤ _; have h1 := bj.size; simp only [World.size_alloc] at h1; omega
  have ms := MaySpoil.of od
  simp only [World.size_alloc] at ms
  obtain ⟨p0, p1, p2⟩ := (BXd.out.here CHo.out).three
  have lg := (BXd.out.here CHo.out).lt
  have al : Below w15.heap.size w15 (w15.alloc (.cells [Value.slice a5 n5 c5, .slice a5' n5' c5', .bool E3.dead].toArray 25)) := (Below.refl _ _).alloc (Nat.le_refl _) _
  have BX5 : Hid (Bx (w15.alloc (.cells [Value.slice a5 n5 c5, .slice a5' n5' c5', .bool E3.dead].toArray 25)) w15.heap.size [.slice a5 n5 c5, .slice a5' n5' c5', .bool E3.dead]) := Bx.new w15 _ _
  have AT5 := Lib.hid (atj.here al)
  have MS5 := Lib.hid (ms.grow al)
  have CHo := Lib.hid (thence CHo.out al (Nat.le_refl _))
  have CH1 := Lib.hid (thence CH1.out al (Nat.le_refl _))
  have CH2 := Lib.hid (thence CH2.out al (Nat.le_refl _))
  have CH3 := Lib.hid (thence CH3.out al (Nat.le_refl _))
  have CH4 := Lib.hid (thence CH4.out al (Nat.le_refl _))
  have CH5 : Hid (Below (w15.alloc (.cells [Value.slice a5 n5 c5, .slice a5' n5' c5', .bool E3.dead].toArray 25)).heap.size (w15.alloc (.cells [Value.slice a5 n5 c5, .slice a5' n5' c5', .bool E3.dead].toArray 25)) (w15.alloc (.cells [Value.slice a5 n5 c5, .slice a5' n5' c5', .bool E3.dead].toArray 25))) := Below.refl _ _
  clear hn od atj bj al ms
  go_wp2_with fail
  refine (C6.out _ CHo.out).mono ?_
  intro e w16 hn
  obtain ⟨a6, n6, c6, a6', n6', c6', rfl, od, atj, bj⟩ := hn.open
  have CHo := Lib.hid (thence CHo.out bj (Nat.le_refl _))
  have CH1 := Lib.hid (thence CH1.out bj (Nat.le_refl _))
  have CH2 := Lib.hid (thence CH2.out bj (Nat.le_refl _))
  have CH3 := Lib.hid (thence CH3.out bj (Nat.le_refl _))
  have CH4 := Lib.hid (thence CH4.out bj (Nat.le_refl _))
  have CH5 := Lib.hid (thence CH5.out bj (Nat.le_refl _))
  have Z6 : Hid (w15.heap.size ≤ w16.heap.size) := by show _ ≤ _; have h1 := bj.size; simp only [World.size_alloc] at h1; omega
  obtain ⟨p0, p1, p2⟩ := (BXo.out.here CHo.out).three
  have lg := (BXo.out.here CHo.out).lt
  have al : Below w16.heap.size w16 (w16.alloc (.cells [Value.slice a6 n6 c6, .slice a6' n6' c6', .bool F3.dead].toArray 25)) := (Below.refl _ _).alloc (Nat.le_refl _) _
  have BX6 : Hid (Bx (w16.alloc (.cells [Value.slice a6 n6 c6, .slice a6' n6' c6', .bool F3.dead].toArray 25)) w16.heap.size [.slice a6 n6 c6, .slice a6' n6' c6', .bool F3.dead]) := Bx.new w16 _ _
  have AT6 := Lib.hid (atj.here al)
  have CHo := Lib.hid (thence CHo.out al (Nat.le_refl _))
  have CH1 := Lib.hid (thence CH1.out al (Nat.le_refl _))
  have CH2 := Lib.hid (thence CH2.out al (Nat.le_refl _))
  have CH3 := Lib.hid (thence CH3.out al (Nat.le_refl _))
  have CH4 := Lib.hid (thence CH4.out al (Nat.le_refl _))
  have CH5 := Lib.hid (thence CH5.out al (Nat.le_refl _))
  have CH6 : Hid (Below (w16.alloc (.cells [Value.slice a6 n6 c6, .slice a6' n6' c6', .bool F3.dead].toArray 25)).heap.size (w16.alloc (.cells [Value.slice a6 n6 c6, .slice a6' n6' c6', .bool F3.dead].toArray 25)) (w16.alloc (.cells [Value.slice a6 n6 c6, .slice a6' n6' c6', .bool F3.dead].toArray 25))) := Below.refl _ _
  clear hn od atj bj al
  go_wp2_with fail
  refine (C7.out _ CHo.out).mono ?_
  intro e w17 hn
  obtain ⟨a7, n7, c7, a7', n7', c7', rfl, od, atj, bj⟩ := hn.open
  have CHo := Lib.hid (thence CHo.out bj (Nat.le_refl _))
  have CH1 := Lib.hid (thence CH1.out bj (Nat.le_refl _))
  have CH2 := Lib.hid (thence CH2.out bj (Nat.le_refl _))
  have CH3 := Lib.hid (thence CH3.out bj (Nat.le_refl _))
  have CH4 := Lib.hid (thence CH4.out bj (Nat.le_refl _))
  have CH5 := Lib.hid (thence CH5.out bj (Nat.le_refl _))
  have CH6 := Lib.hid (thence CH6.out bj (Nat.le_refl _))
  have Z7 : Hid (w16.heap.size ≤ w17.heap.size) := by show _ ≤ _; have h1 := bj.size; simp only [World.size_alloc] at h1; omega
  have ms := MaySpoil.of od
  simp only [World.size_alloc] at ms
  obtain ⟨p0, p1, p2⟩ := (BXd.out.here CHo.out).three
  have lg := (BXd.out.here CHo.out).lt
  have al : Below w17.heap.size w17 (w17.alloc (.cells [Value.slice a7 n7 c7, .slice a7' n7' c7', .bool E4.dead].toArray 25)) := (Below.refl _ _).alloc (Nat.le_refl _) _
  have BX7 : Hid (Bx (w17.alloc (.cells [Value.slice a7 n7 c7, .slice a7' n7' c7', .bool E4.dead].toArray 25)) w17.heap.size [.slice a7 n7 c7, .slice a7' n7' c7', .bool E4.dead]) := Bx.new w17 _ _
  have AT7 := Lib.hid (atj.here al)
  have MS7 := Lib.hid (ms.grow al)
  have CHo := Lib.hid (thence CHo.out al (Nat.le_refl _))
  have CH1 := Lib.hid (thence CH1.out al (Nat.le_refl _))
  have CH2 := Lib.hid (thence CH2.out al (Nat.le_refl _))
  have CH3 := Lib.hid (thence CH3.out al (Nat.le_refl _))
  have CH4 := Lib.hid (thence CH4.out al (Nat.le_refl _))
  have CH5 := Lib.hid (thence CH5.out al (Nat.le_refl _))
  have CH6 := Lib.hid (thence CH6.out al (Nat.le_refl _))
  have CH7 : Hid (Below (w17.alloc (.cells [Value.slice a7 n7 c7, .slice a7' n7' c7', .bool E4.dead].toArray 25)).heap.size (w17.alloc (.cells [Value.slice a7 n7 c7, .slice a7' n7' c7', .bool E4.dead].toArray 25)) (w17.alloc (.cells [Value.slice a7 n7 c7, .slice a7' n7' c7', .bool E4.dead].toArray 25))) := Below.refl _ _
  clear hn od atj bj al ms
  go_wp2_with fail
  refine (C8.out _ CHo.out).mono ?_
  intro e w18 hn
  obtain ⟨a8, n8, c8, a8', n8', c8', rfl, od, atj, bj⟩ := hn.open
  have CHo := Lib.hid (thence CHo.out bj (Nat.le_refl _))
  have CH1 := Lib.hid (thence CH1.out bj (Nat.le_refl _))
  have CH2 := Lib.hid (thence CH2.out bj (Nat.le_refl _))
  have CH3 := Lib.hid (thence CH3.out bj (Nat.le_refl _))
  have CH4 := Lib.hid (thence CH4.out bj (Nat.le_refl _))
  have CH5 := Lib.hid (thence CH5.out bj (Nat.le_refl _))
  have CH6 := Lib.hid (thence CH6.out bj (Nat.le_refl _))
  have CH7 := Lib.hid (thence CH7.out bj (Nat.le_refl _))
  have Z8 : Hid (w17.heap.size ≤ w18.heap.size) := by show _ ≤ _; have h1 := bj.size; simp only [World.size_alloc] at h1; omega
  obtain ⟨p0, p1, p2⟩ := (BX1.out.here CH1.out).three
  have lg := (BX1.out.here CH1.out).lt
  obtain ⟨r0, r1, r2⟩ := (BX2.out.here CH2.out).three
  have lr := (BX2.out.here CH2.out).lt
  have al : Below w18.heap.size w18 (w18.alloc (.cells [Value.slice a8 n8 c8, .slice a8' n8' c8', .bool E4.dead].toArray 25)) := (Below.refl _ _).alloc (Nat.le_refl _) _
  have BX8 : Hid (Bx (w18.alloc (.cells [Value.slice a8 n8 c8, .slice a8' n8' c8', .bool E4.dead].toArray 25)) w18.heap.size [.slice a8 n8 c8, .slice a8' n8' c8', .bool E4.dead]) := Bx.new w18 _ _
  have AT8 := Lib.hid (atj.here al)
  have CHo := Lib.hid (thence CHo.out al (Nat.le_refl _))
  have CH1 := Lib.hid (thence CH1.out al (Nat.le_refl _))
  have CH2 := Lib.hid (thence CH2.out al (Nat.le_refl _))
  have CH3 := Lib.hid (thence CH3.out al (Nat.le_refl _))
  have CH4 := Lib.hid (thence CH4.out al (Nat.le_refl _))
  have CH5 := Lib.hid (thence CH5.out al (Nat.le_refl _))
  have CH6 := Lib.hid (thence CH6.out al (Nat.le_refl _))
  have CH7 := Lib.hid (thence CH7.out al (Nat.le_refl _))
  have CH8 : Hid (Below (w18.alloc (.cells [Value.slice a8 n8 c8, .slice a8' n8' c8', .bool E4.dead].toArray 25)).heap.size (w18.alloc (.cells [Value.slice a8 n8 c8, .slice a8' n8' c8', .bool E4.dead].toArray 25)) (w18.alloc (.cells [Value.slice a8 n8 c8, .slice a8' n8' c8', .bool E4.dead].toArray 25))) := Below.refl _ _
  clear hn od atj bj al
  go_wp2_with fail
  refine (S1.out _ _ _ _ _ _ _ _ _ _ _ _ _ (AT1.out.here CH1.out) (AT2.out.here CH2.out)).mono ?_
  rintro e v1 ⟨rfl, bj⟩
  have CHo := Lib.hid (thence CHo.out bj (Nat.le_refl _))
  have CH1 := Lib.hid (thence CH1.out bj (Nat.le_refl _))
  have CH2 := Lib.hid (thence CH2.out bj (Nat.le_refl _))
  have CH3 := Lib.hid (thence CH3.out bj (Nat.le_refl _))
  have CH4 := Lib.hid (thence CH4.out bj (Nat.le_refl _))
  have CH5 := Lib.hid (thence CH5.out bj (Nat.le_refl _))
  have CH6 := Lib.hid (thence CH6.out bj (Nat.le_refl _))
  have CH7 := Lib.hid (thence CH7.out bj (Nat.le_refl _))
  have CH8 := Lib.hid (thence CH8.out bj (Nat.le_refl _))
  obtain ⟨p0, p1, p2⟩ := (BX3.out.here CH3.out).three
  obtain ⟨r0, r1, r2⟩ := (BX4.out.here CH4.out).three
  clear bj
  go_wp2_with fail
  refine (S2.out _ _ _ _ _ _ _ _ _ _ _ _ _ (AT3.out.here CH3.out) (AT4.out.here CH4.out)).mono ?_
  rintro e v2 ⟨rfl, bj⟩
  have CHo := Lib.hid (thence CHo.out bj (Nat.le_refl _))
  have CH1 := Lib.hid (thence CH1.out bj (Nat.le_refl _))
  have CH2 := Lib.hid (thence CH2.out bj (Nat.le_refl _))
  have CH3 := Lib.hid (thence CH3.out bj (Nat.le_refl _))
  have CH4 := Lib.hid (thence CH4.out bj (Nat.le_refl _))
  have CH5 := Lib.hid (thence CH5.out bj (Nat.le_refl _))
  have CH6 := Lib.hid (thence CH6.out bj (Nat.le_refl _))
  have CH7 := Lib.hid (thence CH7.out bj (Nat.le_refl _))
  have CH8 := Lib.hid (thence CH8.out bj (Nat.le_refl _))
  obtain ⟨p0, p1, p2⟩ := (BX5.out.here CH5.out).three
  obtain ⟨r0, r1, r2⟩ := (BX6.out.here CH6.out).three
  clear bj
  go_wp2_with fail
  refine (S3.out _ _ _ _ _ _ _ _ _ _ _ _ _ (AT5.out.here CH5.out) (AT6.out.here CH6.out)).mono ?_
  rintro e v3 ⟨rfl, bj⟩
  have CHo := Lib.hid (thence CHo.out bj (Nat.le_refl _))
  have CH1 := Lib.hid (thence CH1.out bj (Nat.le_refl _))
  have CH2 := Lib.hid (thence CH2.out bj (Nat.le_refl _))
  have CH3 := Lib.hid (thence CH3.out bj (Nat.le_refl _))
  have CH4 := Lib.hid (thence CH4.out bj (Nat.le_refl _))
  have CH5 := Lib.hid (thence CH5.out bj (Nat.le_refl _))
  have CH6 := Lib.hid (thence CH6.out bj (Nat.le_refl _))
  have CH7 := Lib.hid (thence CH7.out bj (Nat.le_refl _))
  have CH8 := Lib.hid (thence CH8.out bj (Nat.le_refl _))
  obtain ⟨p0, p1, p2⟩ := (BX7.out.here CH7.out).three
  obtain ⟨r0, r1, r2⟩ := (BX8.out.here CH8.out).three
  clear bj
  go_wp2_with fail
  refine (S4.out _ _ _ _ _ _ _ _ _ _ _ _ _ (AT7.out.here CH7.out) (AT8.out.here CH8.out)).mono ?_
  rintro e v4 ⟨rfl, bj⟩
  have CHo := Lib.hid (thence CHo.out bj (Nat.le_refl _))
  have CH1 := Lib.hid (thence CH1.out bj (Nat.le_refl _))
  have CH2 := Lib.hid (thence CH2.out bj (Nat.le_refl _))
  have CH3 := Lib.hid (thence CH3.out bj (Nat.le_refl _))
  have CH4 := Lib.hid (thence CH4.out bj (Nat.le_refl _))
  have CH5 := Lib.hid (thence CH5.out bj (Nat.le_refl _))
  have CH6 := Lib.hid (thence CH6.out bj (Nat.le_refl _))
  have CH7 := Lib.hid (thence CH7.out bj (Nat.le_refl _))
  have CH8 := Lib.hid (thence CH8.out bj (Nat.le_refl _))
  obtain ⟨p0, p1, p2⟩ := (BX1.out.here CH1.out).three
  clear bj
  have BX1 := Lib.hid (BX1.out.here CH1.out)
  have MS1 := Lib.hid (MS1.out.grow CH1.out)
  have HI1 : Hid (w11.heap.size ≤ v4.heap.size) := Nat.le_of_lt BX1.out.lt
  have BX3 := Lib.hid (BX3.out.here CH3.out)
  have MS3 := Lib.hid (MS3.out.grow CH3.out)
  have HI3 : Hid (w13.heap.size ≤ v4.heap.size) := Nat.le_of_lt BX3.out.lt
  have BX5 := Lib.hid (BX5.out.here CH5.out)
  have MS5 := Lib.hid (MS5.out.grow CH5.out)
  have HI5 : Hid (w15.heap.size ≤ v4.heap.size) := Nat.le_of_lt BX5.out.lt
  have BX7 := Lib.hid (BX7.out.here CH7.out)
  have MS7 := Lib.hid (MS7.out.grow CH7.out)
  have HI7 : Hid (w17.heap.size ≤ v4.heap.size) := Nat.le_of_lt BX7.out.lt
  have L13 : Hid (w11.heap.size ≤ w12.heap.size) := Z2.out
  go_wp2_with fail
  refine (spoil_may _ _ _ MS1.out HI1.out).mono ?_
  rintro e u1 ⟨⟨vv, rfl⟩, tk⟩
  have BX3 := Lib.hid (tk.bx BX3.out (.inr (by have h1 := Z1.out; have h2 := Z2.out; have h3 := Z3.out; have h4 := Z4.out; have h5 := Z5.out; have h6 := Z6.out; have h7 := Z7.out; have h8 := Z8.out; omega)))
  have MS3 := Lib.hid (MS3.out.touch tk (.inr (by have h1 := Z1.out; have h2 := Z2.out; have h3 := Z3.out; have h4 := Z4.out; have h5 := Z5.out; have h6 := Z6.out; have h7 := Z7.out; have h8 := Z8.out; omega)))
  have HI3 := Lib.hid (Nat.le_trans HI3.out tk.size)
  have BX5 := Lib.hid (tk.bx BX5.out (.inr (by have h1 := Z1.out; have h2 := Z2.out; have h3 := Z3.out; have h4 := Z4.out; have h5 := Z5.out; have h6 := Z6.out; have h7 := Z7.out; have h8 := Z8.out; omega)))
  have MS5 := Lib.hid (MS5.out.touch tk (.inr (by have h1 := Z1.out; have h2 := Z2.out; have h3 := Z3.out; have h4 := Z4.out; have h5 := Z5.out; have h6 := Z6.out; have h7 := Z7.out; have h8 := Z8.out; omega)))
  have HI5 := Lib.hid (Nat.le_trans HI5.out tk.size)
  have BX7 := Lib.hid (tk.bx BX7.out (.inr (by have h1 := Z1.out; have h2 := Z2.out; have h3 := Z3.out; have h4 := Z4.out; have h5 := Z5.out; have h6 := Z6.out; have h7 := Z7.out; have h8 := Z8.out; omega)))
  have MS7 := Lib.hid (MS7.out.touch tk (.inr (by have h1 := Z1.out; have h2 := Z2.out; have h3 := Z3.out; have h4 := Z4.out; have h5 := Z5.out; have h6 := Z6.out; have h7 := Z7.out; have h8 := Z8.out; omega)))
  have HI7 := Lib.hid (Nat.le_trans HI7.out tk.size)
  have CHo := Lib.hid (Touch.below CHo.out tk (by have h1 := Z1.out; have h2 := Z2.out; have h3 := Z3.out; have h4 := Z4.out; have h5 := Z5.out; have h6 := Z6.out; have h7 := Z7.out; have h8 := Z8.out; omega) (Nat.le_refl _))
  obtain ⟨p0, p1, p2⟩ := BX3.out.three
  clear tk
  go_wp2_with fail
  refine (spoil_may _ _ _ MS3.out HI3.out).mono ?_
  rintro e u3 ⟨⟨vv, rfl⟩, tk⟩
  have BX5 := Lib.hid (tk.bx BX5.out (.inr (by have h1 := Z1.out; have h2 := Z2.out; have h3 := Z3.out; have h4 := Z4.out; have h5 := Z5.out; have h6 := Z6.out; have h7 := Z7.out; have h8 := Z8.out; omega)))
  have MS5 := Lib.hid (MS5.out.touch tk (.inr (by have h1 := Z1.out; have h2 := Z2.out; have h3 := Z3.out; have h4 := Z4.out; have h5 := Z5.out; have h6 := Z6.out; have h7 := Z7.out; have h8 := Z8.out; omega)))
  have HI5 := Lib.hid (Nat.le_trans HI5.out tk.size)
  have BX7 := Lib.hid (tk.bx BX7.out (.inr (by have h1 := Z1.out; have h2 := Z2.out; have h3 := Z3.out; have h4 := Z4.out; have h5 := Z5.out; have h6 := Z6.out; have h7 := Z7.out; have h8 := Z8.out; omega)))
  have MS7 := Lib.hid (MS7.out.touch tk (.inr (by have h1 := Z1.out; have h2 := Z2.out; have h3 := Z3.out; have h4 := Z4.out; have h5 := Z5.out; have h6 := Z6.out; have h7 := Z7.out; have h8 := Z8.out; omega)))
  have HI7 := Lib.hid (Nat.le_trans HI7.out tk.size)
  have CHo := Lib.hid (Touch.below CHo.out tk (by have h1 := Z1.out; have h2 := Z2.out; have h3 := Z3.out; have h4 := Z4.out; have h5 := Z5.out; have h6 := Z6.out; have h7 := Z7.out; have h8 := Z8.out; omega) (Nat.le_refl _))
  obtain ⟨p0, p1, p2⟩ := BX5.out.three
  clear tk
  go_wp2_with fail
  refine (spoil_may _ _ _ MS5.out HI5.out).mono ?_
  rintro e u5 ⟨⟨vv, rfl⟩, tk⟩
  have BX7 := Lib.hid (tk.bx BX7.out (.inr (by have h1 := Z1.out; have h2 := Z2.out; have h3 := Z3.out; have h4 := Z4.out; have h5 := Z5.out; have h6 := Z6.out; have h7 := Z7.out; have h8 := Z8.out; omega)))
  have MS7 := Lib.hid (MS7.out.touch tk (.inr (by have h1 := Z1.out; have h2 := Z2.out; have h3 := Z3.out; have h4 := Z4.out; have h5 := Z5.out; have h6 := Z6.out; have h7 := Z7.out; have h8 := Z8.out; omega)))
  have HI7 := Lib.hid (Nat.le_trans HI7.out tk.size)
  have CHo := Lib.hid (Touch.below CHo.out tk (by have h1 := Z1.out; have h2 := Z2.out; have h3 := Z3.out; have h4 := Z4.out; have h5 := Z5.out; have h6 := Z6.out; have h7 := Z7.out; have h8 := Z8.out; omega) (Nat.le_refl _))
  obtain ⟨p0, p1, p2⟩ := BX7.out.three
  clear tk
  go_wp2_with fail
  refine (spoil_may _ _ _ MS7.out HI7.out).mono ?_
  rintro e u7 ⟨⟨vv, rfl⟩, tk⟩
  have CHo := Lib.hid (Touch.below CHo.out tk (by have h1 := Z1.out; have h2 := Z2.out; have h3 := Z3.out; have h4 := Z4.out; have h5 := Z5.out; have h6 := Z6.out; have h7 := Z7.out; have h8 := Z8.out; omega) (Nat.le_refl _))
  obtain ⟨p0, p1, p2⟩ := (BXo.out.here CHo.out).three
  obtain ⟨r0, r1, r2⟩ := (BXd.out.here CHo.out).three
  clear tk
  go_wp2_with fail
  refine (SO.out _ CHo.out).mono ?_
  rintro e z1 ⟨rfl, bj⟩
  have CHo := Lib.hid (thence CHo.out bj (Nat.le_refl _))
  have T1 := text_is _ _ _ _ _ (RDo.out.here CHo.out)
  rw [← HS0.out] at T1
  clear bj
  go_wp2_with fail
  go_ret
  exact ⟨rfl, thence HBo.out CHo.out (Nat.le_refl _)⟩

theorem turns_walk (a : Option Addr) (n c : Nat) (a' : Option Addr) (n' c' : Nat) (D : Dv) (at_ : Int) (b : Option Addr) (len cap : Nat) (l : List Nat) (w : World) (hr : DevAt w.heap.size w a n c a' n' c' D) (hq : Rd w.heap.size w b len cap l) :
    Calls Try.prog 5 #[.agg #[.slice a n c, .slice a' n' c', .bool D.dead], .int .i64 at_, .slice b len cap] w fun e w' => e = .returned (.bool true) ∧ Below w.heap.size w w' := by
  rcases Bool.eq_false_or_eq_true (DK.great D) with hg | hg
  · exact turns_great a n c a' n' c' D at_ b len cap l w hr hq hg
  · by_cases hl : 1000 < l.length
    · exact turns_long a n c a' n' c' D at_ b len cap l w hr hq hg hl
    · exact turns_main a n c a' n' c' D at_ b len cap l w hr hq hg (by omega)
end Go.Proofs.Ytiphpgfjfmlbjaa.PW
