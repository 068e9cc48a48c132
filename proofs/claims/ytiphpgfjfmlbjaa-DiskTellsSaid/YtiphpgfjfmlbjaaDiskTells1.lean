/-
  DiskTells' walk: what is read, what lasts, copies, new ones, comparing are the document's.
-/
import Derived.Test.YtiphpgfjfmlbjaaDiskSpoil
namespace Go.Proofs.Ytiphpgfjfmlbjaa.PW
open Go.RowKit
open DK (Dv)
set_option linter.unusedVariables false
set_option linter.unusedSimpArgs false

theorem refread_tx (a : Option Addr) (n c : Nat) (a' : Option Addr) (n' c' : Nat) (D : Dv) (at_ : Int) (w : World) (hr : DevAt w.heap.size w a n c a' n' c' D) (hf : Fit D) :
    Calls Try.prog 18 #[.agg #[.slice a n c, .slice a' n' c', .bool D.dead], .int .i64 at_] w fun e w' => ∃ x y z, e = .returned (.tuple #[.slice x y z, .int .i64 (DK.rcode D at_ : Nat)]) ∧ Rd w'.heap.size w' x y z (rtext D at_) ∧ Below w.heap.size w w' :=
  (refRead_any a n c a' n' c' D at_ w hr hf).mono fun e w' h => by
    unfold rtext
    rcases h with ⟨h0, x, y, z, rfl, hrd, hb⟩ | ⟨h0, rfl, hb⟩
    · rw [h0]; exact ⟨x, y, z, rfl, hrd, hb⟩
    · rw [if_neg h0]; exact ⟨none, 0, 0, rfl, rd_nil _ _, hb⟩
theorem reflast_tx (a : Option Addr) (n c : Nat) (a' : Option Addr) (n' c' : Nat) (D : Dv) (at_ : Int) (w : World) (hr : DevAt w.heap.size w a n c a' n' c' D) (hf : Fit D) :
    Calls Try.prog 20 #[.agg #[.slice a n c, .slice a' n' c', .bool D.dead], .int .i64 at_] w fun e w' => ∃ x y z, e = .returned (.tuple #[.slice x y z, .int .i64 (DK.rcode D at_ : Nat)]) ∧ Rd w'.heap.size w' x y z (ltext D at_) ∧ Below w.heap.size w w' :=
  (refLasting_any a n c a' n' c' D at_ w hr hf).mono fun e w' h => by
    unfold ltext
    rcases h with ⟨h0, x, y, z, rfl, hrd, hb⟩ | ⟨h0, rfl, hb⟩
    · rw [h0]; exact ⟨x, y, z, rfl, hrd, hb⟩
    · rw [if_neg h0]; exact ⟨none, 0, 0, rfl, rd_nil _ _, hb⟩
/-- Bytes of the call's own that may be written over. -/
def AR (lo : Nat) (w : World) (a : Option Addr) (n : Nat) : Prop := n ≤ 9223372036854775807 ∧ (0 < n → ∃ g, a = some ⟨g, 0, none⟩ ∧ lo ≤ g ∧ g < w.heap.size ∧ (∀ j, j < n → ∃ x : Int, w.cell? ⟨g, j, none⟩ = some (.int .u8 x)) ∧ ∀ j, w.frozen? ⟨g, j, none⟩ = false)
theorem AR.of {lo lo' : Nat} {w : World} {a : Option Addr} {n c : Nat} {l : List Nat} (h : Item lo' w ⟨a, n, c, l⟩) (hl : lo ≤ lo') : AR lo w a n := by
  refine ⟨?_, fun h0 => ?_⟩
  · have h1 : n = l.length := h.rd.long
    have h2 : l.length ≤ c := h.rd.fits
    have h3 : c ≤ maxLen := h.rd.small
    unfold maxLen at h3; omega
  · obtain ⟨g, e1, e2, e3, _, e5, e6⟩ := item_spo h h0
    exact ⟨g, e1, by omega, e3, e5, e6⟩
theorem AR.set {lo : Nat} {w : World} {a : Option Addr} {n : Nat} (h : AR lo w a n) (g j : Nat) (y : Int) : AR lo (w.setCell ⟨g, j, none⟩ (.int .u8 y)) a n := by
  refine ⟨h.1, fun h0 => ?_⟩
  obtain ⟨g', e1, e2, e3, e4, e5⟩ := h.2 h0
  refine ⟨g', e1, e2, by simp [World.setCell]; exact e3, fun j' hj' => ?_, fun j' => by rw [World.frozen?_setCell]; exact e5 j'⟩
  obtain ⟨x, hx⟩ := e4 j' hj'
  by_cases e : (⟨g, j, none⟩ : Addr) = ⟨g', j', none⟩
  · rw [← e] at hx ⊢
    exact ⟨y, World.cell?_setCell_same _ _ _ hx⟩
  · rw [World.cell?_setCell_other (h := e)]; exact ⟨x, hx⟩
theorem AR.grow {lo : Nat} {w w' : World} {a : Option Addr} {n : Nat} (h : AR lo w a n) (hb : Below w.heap.size w w') : AR lo w' a n := by
  refine ⟨h.1, fun h0 => ?_⟩
  obtain ⟨g, e1, e2, e3, e4, e5⟩ := h.2 h0
  refine ⟨g, e1, e2, Nat.lt_of_lt_of_le e3 hb.size, fun j hj => ?_, fun j => ?_⟩
  · rw [hb.cell (p := ⟨g, j, none⟩) e3]; exact e4 j hj
  · rw [hb.frozen (p := ⟨g, j, none⟩) e3]; exact e5 j

set_option maxRecDepth 100000 in
set_option maxHeartbeats 1000000 in
theorem tells_great (a : Option Addr) (n c : Nat) (a' : Option Addr) (n' c' : Nat) (D : Dv) (b : Option Addr) (m d : Nat) (b' : Option Addr) (m' d' : Nat) (O : Dv) (at_ nb : Int) (w : World) (hr : DevAt w.heap.size w a n c a' n' c' D) (hq : DevAt w.heap.size w b m d b' m' d' O) (hg : DK.great D = true) :
    Calls Try.prog 4 #[.agg #[.slice a n c, .slice a' n' c', .bool D.dead], .agg #[.slice b m d, .slice b' m' d', .bool O.dead], .int .i64 at_, .int .i64 nb] w fun e w' => e = .returned (.bool true) ∧ Below w.heap.size w w' := by
  have hb1 : Below w.heap.size w ((w.alloc (.cells #[.slice a n c, .slice a' n' c', .bool D.dead] 25)).alloc (.cells #[.slice b m d, .slice b' m' d', .bool O.dead] 25)) := ((Below.refl _ _).alloc (Nat.le_refl _) _).alloc (by simp) _
  have bD := (Bx.new w [.slice a n c, .slice a' n' c', .bool D.dead] 25).alloc (.cells #[.slice b m d, .slice b' m' d', .bool O.dead] 25)
  have bO := Bx.new (w.alloc (.cells #[.slice a n c, .slice a' n' c', .bool D.dead] 25)) [.slice b m d, .slice b' m' d', .bool O.dead] 25
  simp only [World.size_alloc] at bO
  have CG : Hid (∀ w1, Below w.heap.size w w1 → Calls Try.prog 16 #[.agg #[.slice a n c, .slice a' n' c', .bool D.dead]] w1 fun e w' => e = .returned (.bool (DK.great D)) ∧ Below w1.heap.size w1 w') := fun w1 h => great_any a n c a' n' c' D w1 (hr.here h)
  have CG2 : Hid (∀ w1, Below w.heap.size w w1 → Calls Try.prog 16 #[.agg #[.slice b m d, .slice b' m' d', .bool O.dead]] w1 fun e w' => e = .returned (.bool (DK.great O)) ∧ Below w1.heap.size w1 w') := fun w1 h => great_any b m d b' m' d' O w1 (hq.here h)
  have HB := Lib.hid hb1
  have BD := Lib.hid bD
  have BO := Lib.hid bO
  rw [hg] at CG
  clear hb1 bD bO hr hq hg CG2
  generalize D.dead = dd at *
  generalize O.dead = oo at *
  go_enter Try.func4, Try.ntmps4
  go_wp2_with fail
  refine (CG.out _ HB.out).mono ?_
  rintro e w2 ⟨rfl, b2⟩
  have BD2 := Lib.hid (BD.out.here b2)
  have BO2 := Lib.hid (BO.out.here b2)
  have HB2 := Lib.hid (thence HB.out b2 (Nat.le_refl _))
  obtain ⟨o0, o1, o2⟩ := BO2.out.three
  clear b2
  go_wp2_with fail
  go_ret
  exact ⟨rfl, HB2.out⟩

set_option maxRecDepth 100000 in
set_option maxHeartbeats 1000000 in
theorem tells_great2 (a : Option Addr) (n c : Nat) (a' : Option Addr) (n' c' : Nat) (D : Dv) (b : Option Addr) (m d : Nat) (b' : Option Addr) (m' d' : Nat) (O : Dv) (at_ nb : Int) (w : World) (hr : DevAt w.heap.size w a n c a' n' c' D) (hq : DevAt w.heap.size w b m d b' m' d' O) (hg : DK.great D = false) (hg2 : DK.great O = true) :
    Calls Try.prog 4 #[.agg #[.slice a n c, .slice a' n' c', .bool D.dead], .agg #[.slice b m d, .slice b' m' d', .bool O.dead], .int .i64 at_, .int .i64 nb] w fun e w' => e = .returned (.bool true) ∧ Below w.heap.size w w' := by
  have hb1 : Below w.heap.size w ((w.alloc (.cells #[.slice a n c, .slice a' n' c', .bool D.dead] 25)).alloc (.cells #[.slice b m d, .slice b' m' d', .bool O.dead] 25)) := ((Below.refl _ _).alloc (Nat.le_refl _) _).alloc (by simp) _
  have bD := (Bx.new w [.slice a n c, .slice a' n' c', .bool D.dead] 25).alloc (.cells #[.slice b m d, .slice b' m' d', .bool O.dead] 25)
  have bO := Bx.new (w.alloc (.cells #[.slice a n c, .slice a' n' c', .bool D.dead] 25)) [.slice b m d, .slice b' m' d', .bool O.dead] 25
  simp only [World.size_alloc] at bO
  have CG : Hid (∀ w1, Below w.heap.size w w1 → Calls Try.prog 16 #[.agg #[.slice a n c, .slice a' n' c', .bool D.dead]] w1 fun e w' => e = .returned (.bool (DK.great D)) ∧ Below w1.heap.size w1 w') := fun w1 h => great_any a n c a' n' c' D w1 (hr.here h)
  have CG2 : Hid (∀ w1, Below w.heap.size w w1 → Calls Try.prog 16 #[.agg #[.slice b m d, .slice b' m' d', .bool O.dead]] w1 fun e w' => e = .returned (.bool (DK.great O)) ∧ Below w1.heap.size w1 w') := fun w1 h => great_any b m d b' m' d' O w1 (hq.here h)
  have HB := Lib.hid hb1
  have BD := Lib.hid bD
  have BO := Lib.hid bO
  rw [hg] at CG
  rw [hg2] at CG2
  clear hb1 bD bO hr hq hg hg2
  generalize D.dead = dd at *
  generalize O.dead = oo at *
  go_enter Try.func4, Try.ntmps4
  go_wp2_with fail
  refine (CG.out _ HB.out).mono ?_
  rintro e w2 ⟨rfl, b2⟩
  have BD2 := Lib.hid (BD.out.here b2)
  have BO2 := Lib.hid (BO.out.here b2)
  have HB2 := Lib.hid (thence HB.out b2 (Nat.le_refl _))
  obtain ⟨o0, o1, o2⟩ := BO2.out.three
  clear b2
  go_wp2_with fail
  refine (CG2.out _ HB2.out).mono ?_
  rintro e w3 ⟨rfl, b3⟩
  have BD3 := Lib.hid (BD2.out.here b3)
  have BO3 := Lib.hid (BO2.out.here b3)
  have HB3 := Lib.hid (thence HB2.out b3 (Nat.le_refl _))
  obtain ⟨d0, d1, d2⟩ := BD3.out.three
  clear b3 o0 o1 o2
  go_wp2_with fail
  go_ret
  exact ⟨rfl, HB3.out⟩

set_option maxRecDepth 100000 in
set_option maxHeartbeats 4000000 in
theorem tells_main (a : Option Addr) (n c : Nat) (a' : Option Addr) (n' c' : Nat) (D : Dv) (b : Option Addr) (m d : Nat) (b' : Option Addr) (m' d' : Nat) (O : Dv) (at_ nb : Int) (w : World) (hr : DevAt w.heap.size w a n c a' n' c' D) (hq : DevAt w.heap.size w b m d b' m' d' O) (hg : DK.great D = false) (hg2 : DK.great O = false) :
    Calls Try.prog 4 #[.agg #[.slice a n c, .slice a' n' c', .bool D.dead], .agg #[.slice b m d, .slice b' m' d', .bool O.dead], .int .i64 at_, .int .i64 nb] w fun e w' => e = .returned (.bool true) ∧ Below w.heap.size w w' := by
  have hb1 : Below w.heap.size w ((w.alloc (.cells #[.slice a n c, .slice a' n' c', .bool D.dead] 25)).alloc (.cells #[.slice b m d, .slice b' m' d', .bool O.dead] 25)) := ((Below.refl _ _).alloc (Nat.le_refl _) _).alloc (by simp) _
  have bD := (Bx.new w [.slice a n c, .slice a' n' c', .bool D.dead] 25).alloc (.cells #[.slice b m d, .slice b' m' d', .bool O.dead] 25)
  have bO := Bx.new (w.alloc (.cells #[.slice a n c, .slice a' n' c', .bool D.dead] 25)) [.slice b m d, .slice b' m' d', .bool O.dead] 25
  simp only [World.size_alloc] at bO
  have CG : Hid (∀ w1, Below w.heap.size w w1 → Calls Try.prog 16 #[.agg #[.slice a n c, .slice a' n' c', .bool D.dead]] w1 fun e w' => e = .returned (.bool (DK.great D)) ∧ Below w1.heap.size w1 w') := fun w1 h => great_any a n c a' n' c' D w1 (hr.here h)
  have CG2 : Hid (∀ w1, Below w.heap.size w w1 → Calls Try.prog 16 #[.agg #[.slice b m d, .slice b' m' d', .bool O.dead]] w1 fun e w' => e = .returned (.bool (DK.great O)) ∧ Below w1.heap.size w1 w') := fun w1 h => great_any b m d b' m' d' O w1 (hq.here h)
  have HB := Lib.hid hb1
  have BD := Lib.hid bD
  have BO := Lib.hid bO
  have hf := fit_of hg
  have hf2 := fit_of hg2
  rw [hg] at CG
  rw [hg2] at CG2
  have CT : Hid (∀ w1, Below w.heap.size w w1 → Calls Try.prog 17 #[.agg #[.slice a n c, .slice a' n' c', .bool D.dead]] w1 (TheDev w1 D)) := fun w1 h => refTwin_any a n c a' n' c' D w1 (hr.here h) hf
  have Hr := Lib.hid hr
  have Hq := Lib.hid hq
  clear hb1 bD bO hr hq hg hg2
  obtain ⟨dd, hdd⟩ : ∃ dd, dd = D.dead := ⟨_, rfl⟩
  obtain ⟨oo, hoo⟩ : ∃ oo, oo = O.dead := ⟨_, rfl⟩
  have HDD := Lib.hid hdd
  have HOO := Lib.hid hoo
  rw [← hdd] at CG CT BD BO HB ⊢
  rw [← hoo] at CG2 BD BO HB ⊢
  clear hdd hoo
  go_enter Try.func4, Try.ntmps4
  go_wp2_with fail
  refine (CG.out _ HB.out).mono ?_
  rintro e w2 ⟨rfl, b2⟩
  have BD2 := Lib.hid (BD.out.here b2)
  have BO2 := Lib.hid (BO.out.here b2)
  have HB2 := Lib.hid (thence HB.out b2 (Nat.le_refl _))
  obtain ⟨o0, o1, o2⟩ := BO2.out.three
  clear b2
  go_wp2_with fail
  refine (CG2.out _ HB2.out).mono ?_
  rintro e w3 ⟨rfl, b3⟩
  have BD3 := Lib.hid (BD2.out.here b3)
  have BO3 := Lib.hid (BO2.out.here b3)
  have HB3 := Lib.hid (thence HB2.out b3 (Nat.le_refl _))
  obtain ⟨d0, d1, d2⟩ := BD3.out.three
  clear b3 o0 o1 o2
  go_wp2_with fail
  refine (CT.out _ HB3.out).mono ?_
  rintro e w4 ⟨v, rfl, od, b4⟩
  obtain ⟨ao, no, co, ao', no', co', rfl, ato⟩ := od.at
  rw [← HDD.out]
  have al4 : Below w4.heap.size w4 (w4.alloc (.cells [Value.slice ao no co, .slice ao' no' co', .bool dd].toArray 25)) := (Below.refl _ _).alloc (Nat.le_refl _) _
  have BXo := Lib.hid (Bx.new w4 [.slice ao no co, .slice ao' no' co', .bool dd] 25)
  have BXd := Lib.hid ((BD3.out.here b4).here al4)
  have BXO := Lib.hid ((BO3.out.here b4).here al4)
  have HBo : Hid (Below w.heap.size w (w4.alloc (.cells [Value.slice ao no co, .slice ao' no' co', .bool dd].toArray 25))) := thence (thence HB3.out b4 (Nat.le_refl _)) al4 (Nat.le_refl _)
  have ATo := Lib.hid (ato.here al4)
  clear al4 ato od b4 BD3 BO3 HB3
  go_wp2_with fail
  generalize hWo : w4.alloc (.cells #[.slice ao no co, .slice ao' no' co', .bool dd] 25) = Wo
  replace BXo : Hid (Bx Wo w4.heap.size [.slice ao no co, .slice ao' no' co', .bool dd]) := by rw [← hWo]; exact BXo.out
  replace BXd : Hid (Bx Wo w.heap.size [.slice a n c, .slice a' n' c', .bool dd]) := by rw [← hWo]; exact BXd.out
  replace BXO : Hid (Bx Wo (w.heap.size + 1) [.slice b m d, .slice b' m' d', .bool oo]) := by rw [← hWo]; exact BXO.out
  replace HBo : Hid (Below w.heap.size w Wo) := by rw [← hWo]; exact HBo.out
  replace ATo : Hid (DevAt Wo.heap.size Wo ao no co ao' no' co' D) := by rw [← hWo]; exact ATo.out
  have ATd : Hid (DevAt Wo.heap.size Wo a n c a' n' c' D) := Hr.out.here HBo.out
  have ATO : Hid (DevAt Wo.heap.size Wo b m d b' m' d' O) := Hq.out.here HBo.out
  clear hWo Hr Hq
  have C1 : Hid (∀ w1, Below Wo.heap.size Wo w1 → Calls Try.prog 10 #[.agg #[.slice ao no co, .slice ao' no' co', .bool dd], .int .i64 at_] w1 (TheTx w1 (rtext D at_) (DK.rcode D at_))) := fun w1 h => by
    have := read_tx ao no co ao' no' co' D at_ w1 (ATo.out.here h)
    rw [← HDD.out] at this; exact this
  have C2 : Hid (∀ w1, Below Wo.heap.size Wo w1 → Calls Try.prog 18 #[.agg #[.slice a n c, .slice a' n' c', .bool dd], .int .i64 at_] w1 (fun e w' => ∃ x y z, e = .returned (.tuple #[.slice x y z, .int .i64 (DK.rcode D at_ : Nat)]) ∧ Rd w'.heap.size w' x y z (rtext D at_) ∧ Below w1.heap.size w1 w')) := fun w1 h => by
    have := refread_tx a n c a' n' c' D at_ w1 (ATd.out.here h) hf
    rw [← HDD.out] at this; exact this
  have C3 : Hid (∀ w1, Below Wo.heap.size Wo w1 → Calls Try.prog 19 #[.agg #[.slice ao no co, .slice ao' no' co', .bool dd], .int .i64 at_] w1 (TheTx w1 (ltext D at_) (DK.rcode D at_))) := fun w1 h => by
    have := lasting_tx ao no co ao' no' co' D at_ w1 (ATo.out.here h)
    rw [← HDD.out] at this; exact this
  have C4 : Hid (∀ w1, Below Wo.heap.size Wo w1 → Calls Try.prog 20 #[.agg #[.slice a n c, .slice a' n' c', .bool dd], .int .i64 at_] w1 (fun e w' => ∃ x y z, e = .returned (.tuple #[.slice x y z, .int .i64 (DK.rcode D at_ : Nat)]) ∧ Rd w'.heap.size w' x y z (ltext D at_) ∧ Below w1.heap.size w1 w')) := fun w1 h => by
    have := reflast_tx a n c a' n' c' D at_ w1 (ATd.out.here h) hf
    rw [← HDD.out] at this; exact this
  have C5 : Hid (∀ w1, Calls Try.prog 9 #[.int .i64 nb] w1 (NewDev w1 (newDev nb) (newCode nb))) := fun w1 => new_any nb w1
  have C6 : Hid (∀ w1, Calls Try.prog 21 #[.int .i64 nb] w1 (NewDev w1 (newDev nb) (newCode nb))) := fun w1 => refNew_any nb w1
  have C7 : Hid (∀ w1, Below Wo.heap.size Wo w1 → Calls Try.prog 22 #[.agg #[.slice ao no co, .slice ao' no' co', .bool dd]] w1 (TheDev w1 D)) := fun w1 h => by
    have := twin_any ao no co ao' no' co' D w1 (ATo.out.here h) hf
    rw [← HDD.out] at this; exact this
  have hfn : Fit (newDev nb) := by
    unfold newDev; split
    · next h => exact fit_may (may_fresh (by omega) (by omega))
    · exact fit_nil
  have S1 : Hid (∀ w1 a n c a' n' c' b m d b' m' d', DevAt w1.heap.size w1 a n c a' n' c' (newDev nb) → DevAt w1.heap.size w1 b m d b' m' d' (newDev nb) → Calls Try.prog 23 #[.agg #[.slice a n c, .slice a' n' c', .bool (newDev nb).dead], .agg #[.slice b m d, .slice b' m' d', .bool (newDev nb).dead]] w1 fun e w' => e = .returned (.bool true) ∧ Below w1.heap.size w1 w') := fun w1 a n c a' n' c' b m d b' m' d' h1 h2 => by
    have := refSame_any a n c a' n' c' _ b m d b' m' d' _ w1 h1 h2 hfn hfn
    rw [DK.same_self] at this; exact this
  have K1 : Hid (∀ w1, Below Wo.heap.size Wo w1 → Calls Try.prog 15 #[.agg #[.slice ao no co, .slice ao' no' co', .bool dd]] w1 (fun e w' => e = .returned (.int .i64 (DK.kcode D : Nat)) ∧ Below w1.heap.size w1 w')) := fun w1 h => by
    have := check_any ao no co ao' no' co' D w1 (ATo.out.here h)
    rw [← HDD.out] at this; exact this
  have K2 : Hid (∀ w1, Below Wo.heap.size Wo w1 → Calls Try.prog 24 #[.agg #[.slice a n c, .slice a' n' c', .bool dd]] w1 (fun e w' => e = .returned (.int .i64 (DK.kcode D : Nat)) ∧ Below w1.heap.size w1 w')) := fun w1 h => by
    have := refCheck_any a n c a' n' c' D w1 (ATd.out.here h)
    rw [← HDD.out] at this; exact this
  have K3 : Hid (∀ w1 x y z x' y' z', DevAt w1.heap.size w1 x y z x' y' z' D → Below Wo.heap.size Wo w1 → Calls Try.prog 23 #[.agg #[.slice x y z, .slice x' y' z', .bool dd], .agg #[.slice a n c, .slice a' n' c', .bool dd]] w1 (fun e w' => e = .returned (.bool true) ∧ Below w1.heap.size w1 w')) := fun w1 x y z x' y' z' h0 h => by
    have := refSame_any x y z x' y' z' D a n c a' n' c' D w1 h0 (ATd.out.here h) hf hf
    rw [DK.same_self, ← HDD.out] at this; exact this
  have K4 : Hid (∀ w1, Below Wo.heap.size Wo w1 → Calls Try.prog 25 #[.agg #[.slice a n c, .slice a' n' c', .bool dd], .agg #[.slice b m d, .slice b' m' d', .bool oo]] w1 (fun e w' => e = .returned (.bool (DK.same D O)) ∧ Below w1.heap.size w1 w')) := fun w1 h => by
    have := same_any a n c a' n' c' D b m d b' m' d' O w1 (ATd.out.here h) (ATO.out.here h)
    rw [← HDD.out, ← HOO.out] at this; exact this
  have K5 : Hid (∀ w1, Below Wo.heap.size Wo w1 → Calls Try.prog 23 #[.agg #[.slice a n c, .slice a' n' c', .bool dd], .agg #[.slice b m d, .slice b' m' d', .bool oo]] w1 (fun e w' => e = .returned (.bool (DK.same D O)) ∧ Below w1.heap.size w1 w')) := fun w1 h => by
    have := refSame_any a n c a' n' c' D b m d b' m' d' O w1 (ATd.out.here h) (ATO.out.here h) hf hf2
    rw [← HDD.out, ← HOO.out] at this; exact this
  have K6 : Hid (∀ w1, Below Wo.heap.size Wo w1 → Calls Try.prog 25 #[.agg #[.slice ao no co, .slice ao' no' co', .bool dd], .agg #[.slice a n c, .slice a' n' c', .bool dd]] w1 (fun e w' => e = .returned (.bool true) ∧ Below w1.heap.size w1 w')) := fun w1 h => by
    have := same_any ao no co ao' no' co' D a n c a' n' c' D w1 (ATo.out.here h) (ATd.out.here h)
    rw [DK.same_self, ← HDD.out] at this; exact this
  have K7 : Hid (∀ w1, Below Wo.heap.size Wo w1 → Calls Try.prog 23 #[.agg #[.slice ao no co, .slice ao' no' co', .bool dd], .agg #[.slice a n c, .slice a' n' c', .bool dd]] w1 (fun e w' => e = .returned (.bool true) ∧ Below w1.heap.size w1 w')) := fun w1 h => by
    have := refSame_any ao no co ao' no' co' D a n c a' n' c' D w1 (ATo.out.here h) (ATd.out.here h) hf hf
    rw [DK.same_self, ← HDD.out] at this; exact this
  clear ATo ATd ATO hf hf2 hfn CG CG2 CT HOO
  generalize rtext D at_ = mr at *
  generalize ltext D at_ = ml at *
  generalize DK.rcode D at_ = qr at *
  generalize DK.kcode D = qk at *
  generalize DK.same D O = qs at *
  generalize newDev nb = N at *
  generalize newCode nb = qn at *
  have CHo : Hid (Below Wo.heap.size Wo Wo) := Below.refl _ _
  obtain ⟨p0, p1, p2⟩ := (BXo.out.here CHo.out).three
  go_wp2_with fail
  refine (C1.out _ CHo.out).mono ?_
  rintro e w11 ⟨x1, y1, z1, rfl, it, bj⟩
  have CHo := Lib.hid (thence CHo.out bj (Nat.le_refl _))
  have A1 := Lib.hid (AR.of (lo := Wo.heap.size) it (by exact Nat.le_refl _))
  have R1 := Lib.hid it.rd
  have PRV : Hid (Wo.heap.size ≤ w11.heap.size) := CHo.out.size
  obtain ⟨p0, p1, p2⟩ := (BXd.out.here CHo.out).three
  clear it bj
  go_wp2_with fail
  refine (C2.out _ CHo.out).mono ?_
  rintro e w12 ⟨x2, y2, z2, rfl, it, bj⟩
  have CHo := Lib.hid (thence CHo.out bj (Nat.le_refl _))
  have R2 := Lib.hid it
  have R1 := Lib.hid (R1.out.here bj)
  have A1 := Lib.hid (A1.out.grow bj)
  have PRV : Hid (Wo.heap.size ≤ w12.heap.size) := CHo.out.size
  obtain ⟨p0, p1, p2⟩ := (BXo.out.here CHo.out).three
  clear it bj
  go_wp2_with fail
  refine (C3.out _ CHo.out).mono ?_
  rintro e w13 ⟨x3, y3, z3, rfl, it, bj⟩
  have CHo := Lib.hid (thence CHo.out bj (Nat.le_refl _))
  have A3 := Lib.hid (AR.of (lo := Wo.heap.size) it (by exact PRV.out))
  have R3 := Lib.hid it.rd
  have R1 := Lib.hid (R1.out.here bj)
  have A1 := Lib.hid (A1.out.grow bj)
  have R2 := Lib.hid (R2.out.here bj)
  have PRV : Hid (Wo.heap.size ≤ w13.heap.size) := CHo.out.size
  obtain ⟨p0, p1, p2⟩ := (BXd.out.here CHo.out).three
  clear it bj
  go_wp2_with fail
  refine (C4.out _ CHo.out).mono ?_
  rintro e w14 ⟨x4, y4, z4, rfl, it, bj⟩
  have CHo := Lib.hid (thence CHo.out bj (Nat.le_refl _))
  have R4 := Lib.hid it
  have R1 := Lib.hid (R1.out.here bj)
  have A1 := Lib.hid (A1.out.grow bj)
  have R2 := Lib.hid (R2.out.here bj)
  have R3 := Lib.hid (R3.out.here bj)
  have A3 := Lib.hid (A3.out.grow bj)
  have PRV : Hid (Wo.heap.size ≤ w14.heap.size) := CHo.out.size
  clear it bj
  go_wp2_with fail
  refine (C5.out _).mono ?_
  intro e w15 hn
  obtain ⟨a5, n5, c5, a5', n5', c5', rfl, -, atj, bj⟩ := hn.open
  have CHo := Lib.hid (thence CHo.out bj (Nat.le_refl _))
  have al : Below w15.heap.size w15 (w15.alloc (.cells [Value.slice a5 n5 c5, .slice a5' n5' c5', .bool N.dead].toArray 25)) := (Below.refl _ _).alloc (Nat.le_refl _) _
  have bb := thence bj al (Nat.le_refl _)
  have SZ5 : Hid (w14.heap.size ≤ w15.heap.size) := bj.size
  have BX5 : Hid (Bx (w15.alloc (.cells [Value.slice a5 n5 c5, .slice a5' n5' c5', .bool N.dead].toArray 25)) w15.heap.size [.slice a5 n5 c5, .slice a5' n5' c5', .bool N.dead]) := Bx.new _ _ _
  have AT5 := Lib.hid (atj.here al)
  have CHo := Lib.hid (thence CHo.out al (Nat.le_refl _))
  have R1 := Lib.hid (R1.out.here bb)
  have A1 := Lib.hid (A1.out.grow bb)
  have R2 := Lib.hid (R2.out.here bb)
  have R3 := Lib.hid (R3.out.here bb)
  have A3 := Lib.hid (A3.out.grow bb)
  have R4 := Lib.hid (R4.out.here bb)
  clear hn atj bj al bb
  go_wp2_with fail
  refine (C6.out _).mono ?_
  intro e w16 hn
  obtain ⟨a6, n6, c6, a6', n6', c6', rfl, -, atj, bj⟩ := hn.open
  have CHo := Lib.hid (thence CHo.out bj (Nat.le_refl _))
  have al : Below w16.heap.size w16 (w16.alloc (.cells [Value.slice a6 n6 c6, .slice a6' n6' c6', .bool N.dead].toArray 25)) := (Below.refl _ _).alloc (Nat.le_refl _) _
  have bb := thence bj al (Nat.le_refl _)
  have BX5 := Lib.hid (BX5.out.here bb)
  have AT5 := Lib.hid (AT5.out.here bb)
  obtain ⟨p0, p1, p2⟩ := (BXo.out.here CHo.out).three
  have lg := (BXo.out.here CHo.out).lt
  have SZ6 : Hid (w14.heap.size ≤ w16.heap.size) := by show _ ≤ _; have h1 := bj.size; have h2 := SZ5.out; simp only [World.size_alloc] at h1; omega
  have BX6 : Hid (Bx (w16.alloc (.cells [Value.slice a6 n6 c6, .slice a6' n6' c6', .bool N.dead].toArray 25)) w16.heap.size [.slice a6 n6 c6, .slice a6' n6' c6', .bool N.dead]) := Bx.new _ _ _
  have AT6 := Lib.hid (atj.here al)
  have CHo := Lib.hid (thence CHo.out al (Nat.le_refl _))
  have R1 := Lib.hid (R1.out.here bb)
  have A1 := Lib.hid (A1.out.grow bb)
  have R2 := Lib.hid (R2.out.here bb)
  have R3 := Lib.hid (R3.out.here bb)
  have A3 := Lib.hid (A3.out.grow bb)
  have R4 := Lib.hid (R4.out.here bb)
  clear hn atj bj al bb
  go_wp2_with fail
  refine (C7.out _ CHo.out).mono ?_
  rintro e w17 ⟨v, rfl, od, bj⟩
  obtain ⟨a7, n7, c7, a7', n7', c7', rfl, atj⟩ := od.at
  rw [← HDD.out] at od ⊢
  obtain ⟨u0, u1, u2⟩ := (BX5.out.here bj).three
  have lu5 := (BX5.out.here bj).lt
  obtain ⟨t0, t1, t2⟩ := (BX6.out.here bj).three
  have lu6 := (BX6.out.here bj).lt
  have ms := MaySpoil.of (D := D) (by rw [← HDD.out]; exact od)
  have CHo := Lib.hid (thence CHo.out bj (Nat.le_refl _))
  have al : Below w17.heap.size w17 (w17.alloc (.cells [Value.slice a7 n7 c7, .slice a7' n7' c7', .bool dd].toArray 25)) := (Below.refl _ _).alloc (Nat.le_refl _) _
  have bb := thence bj al (Nat.le_refl _)
  obtain ⟨W6, hW6⟩ : ∃ W6, W6 = w16.alloc (.cells [Value.slice a6 n6 c6, .slice a6' n6' c6', .bool N.dead].toArray 25) := ⟨_, rfl⟩
  rw [← hW6] at ms bb A1 A3
  have HW6 := Lib.hid hW6
  have B67 : Hid (Below W6.heap.size W6 (w17.alloc (.cells [Value.slice a7 n7 c7, .slice a7' n7' c7', .bool dd].toArray 25))) := bb
  have bb' := bb
  rw [hW6] at bb'
  have AR1 := Lib.hid A1.out
  have AR3 := Lib.hid A3.out
  have BX5 := Lib.hid (BX5.out.here bb')
  have AT5 := Lib.hid (AT5.out.here bb')
  have BX6 := Lib.hid (BX6.out.here bb')
  have AT6 := Lib.hid (AT6.out.here bb')
  have BX7 : Hid (Bx (w17.alloc (.cells [Value.slice a7 n7 c7, .slice a7' n7' c7', .bool dd].toArray 25)) w17.heap.size [.slice a7 n7 c7, .slice a7' n7' c7', .bool dd]) := Bx.new _ _ _
  have AT7 := Lib.hid (atj.here al)
  have MS7 := Lib.hid (ms.grow al)
  have HI7 : Hid (w17.heap.size < (w17.alloc (.cells [Value.slice a7 n7 c7, .slice a7' n7' c7', .bool dd].toArray 25)).heap.size) := by show _ < _; simp
  have CHo := Lib.hid (thence CHo.out al (Nat.le_refl _))
  have PW6 : Hid (Wo.heap.size ≤ W6.heap.size) := by show _ ≤ _; rw [hW6]; simp only [World.size_alloc]; have := PRV.out; have h2 : w14.heap.size ≤ w16.heap.size := SZ6.out; omega
  have R1 := Lib.hid (R1.out.here bb')
  have R2 := Lib.hid (R2.out.here bb')
  have R3 := Lib.hid (R3.out.here bb')
  have R4 := Lib.hid (R4.out.here bb')
  have T1 := text_is _ _ _ _ _ R1.out
  have T2 := text_is _ _ _ _ _ R2.out
  have T3 := text_is _ _ _ _ _ R3.out
  have T4 := text_is _ _ _ _ _ R4.out
  generalize str mr = sr at *
  generalize str ml = sl at *
  clear od atj ms bj al bb bb' hW6 A1 A3
  go_wp2_with fail
  generalize hW7 : w17.alloc (.cells #[.slice a7 n7 c7, .slice a7' n7' c7', .bool dd] 25) = W7 at *
  refine (S1.out _ _ _ _ _ _ _ _ _ _ _ _ _ AT5.out AT6.out).mono ?_
  rintro e v1 ⟨rfl, bj⟩
  have CHo := Lib.hid (thence CHo.out bj (Nat.le_refl _))
  have B67 := Lib.hid (thence B67.out bj (Nat.le_refl _))
  have BX7 := Lib.hid (BX7.out.here bj)
  have AT7 := Lib.hid (AT7.out.here bj)
  have MS7 := Lib.hid (MS7.out.grow bj)
  have HI7 := Lib.hid (Nat.lt_of_lt_of_le HI7.out bj.size)
  clear bj
  go_wp2_with fail
  refine wp_region_noPanic ?_
  refine PX.wp_region_x (fun w' => Below v1.heap.size v1 w') 24 (by kernel_rfl) (Below.refl _ _).drew (fun hHeld => ?_)
  refine PX.wpAnyX_take (i := 0) (oi := ?_) (v := ?_) ?_ (by kernel_rfl) (by kernel_rfl) (by kernel_rfl) (by kernel_rfl) (by kernel_rfl) (fun _ _ _ h => h) (Or.inl ⟨?_, ?_⟩) (by assumption) ?_
  rotate_left 2
  · simp only [List.getElem?_toArray, List.getElem?_cons_succ, List.getElem?_cons_zero]; rfl
  · rfl
  · intro w hSw; (try dsimp only at hSw); obtain ⟨s0, s1, s2⟩ := ((BXo.out.here CHo.out).here hSw).three; go_simp <;> with_reducible rfl
  (try simp only [Act.put, List.setIfInBounds_toArray, List.set_cons_zero, List.set_cons_succ])
  refine PX.wpAnyX_take (i := 2) (oi := ?_) (v := ?_) ?_ (by kernel_rfl) (by kernel_rfl) (by kernel_rfl) (by kernel_rfl) (by kernel_rfl) (fun _ _ _ h => h) (Or.inl ⟨?_, ?_⟩) (by assumption) ?_
  rotate_left 2
  · simp only [List.getElem?_toArray, List.getElem?_cons_succ, List.getElem?_cons_zero]; rfl
  · rfl
  · intro w hSw; (try dsimp only at hSw); obtain ⟨s0, s1, s2⟩ := ((BXd.out.here CHo.out).here hSw).three; go_simp <;> with_reducible rfl
  (try simp only [Act.put, List.setIfInBounds_toArray, List.set_cons_zero, List.set_cons_succ])
  refine PX.wpAnyX_one (i := 1) (o := ?_) (by kernel_rfl) ?_ (fun Kq hKq => ?_)
  rotate_left
  · simp only [List.getElem?_toArray, List.getElem?_cons_succ, List.getElem?_cons_zero]; rfl
  go_simp
  refine (K1.out _ (thence CHo.out (Below.refl _ _).drew (Nat.le_refl _))).mono ?_
  rintro e q1 ⟨rfl, bj⟩
  have BF1 : Hid (Below v1.heap.size v1 q1) := thence ((Below.refl v1.heap.size v1).drew) bj (Nat.le_refl _)
  clear bj
  go_wp2_with fail
  refine hKq.out _ _ (BF1.out) (fun hHeld => ?_)
  clear hKq Kq
  (try simp only [Act.put, List.setIfInBounds_toArray, List.set_cons_zero, List.set_cons_succ])
  refine PX.wpAnyX_one (i := 3) (o := ?_) (by kernel_rfl) ?_ (fun Kq hKq => ?_)
  rotate_left
  · simp only [List.getElem?_toArray, List.getElem?_cons_succ, List.getElem?_cons_zero]; rfl
  go_simp
  refine (K2.out _ (thence CHo.out BF1.out (Nat.le_refl _))).mono ?_
  rintro e q3 ⟨rfl, bj⟩
  have BF3 : Hid (Below v1.heap.size v1 q3) := thence (BF1.out) bj (Nat.le_refl _)
  clear bj
  go_wp2_with fail
  refine hKq.out _ _ (BF3.out) (fun hHeld => ?_)
  clear hKq Kq
  (try simp only [Act.put, List.setIfInBounds_toArray, List.set_cons_zero, List.set_cons_succ])
  refine PX.wpAnyX_take (i := 4) (oi := ?_) (v := ?_) ?_ (by kernel_rfl) (by kernel_rfl) (by kernel_rfl) (by kernel_rfl) (by kernel_rfl) (fun _ _ _ h => h) (Or.inl ⟨?_, ?_⟩) (by assumption) ?_
  rotate_left 2
  · simp only [List.getElem?_toArray, List.getElem?_cons_succ, List.getElem?_cons_zero]; rfl
  · rfl
  · intro w hSw; (try dsimp only at hSw); go_simp <;> with_reducible rfl
  (try simp only [Act.put, List.setIfInBounds_toArray, List.set_cons_zero, List.set_cons_succ])
  refine PX.wpAnyX_take (i := 5) (oi := ?_) (v := ?_) ?_ (by kernel_rfl) (by kernel_rfl) (by kernel_rfl) (by kernel_rfl) (by kernel_rfl) (fun _ _ _ h => h) (Or.inl ⟨?_, ?_⟩) (by assumption) ?_
  rotate_left 2
  · simp only [List.getElem?_toArray, List.getElem?_cons_succ, List.getElem?_cons_zero]; rfl
  · rfl
  · intro w hSw; (try dsimp only at hSw); go_simp <;> with_reducible rfl
  (try simp only [Act.put, List.setIfInBounds_toArray, List.set_cons_zero, List.set_cons_succ])
  refine PX.wpAnyX_take (i := 6) (oi := ?_) (v := ?_) ?_ (by kernel_rfl) (by kernel_rfl) (by kernel_rfl) (by kernel_rfl) (by kernel_rfl) (fun _ _ _ h => h) (Or.inl ⟨?_, ?_⟩) (by assumption) ?_
  rotate_left 2
  · simp only [List.getElem?_toArray, List.getElem?_cons_succ, List.getElem?_cons_zero]; rfl
  · rfl
  · intro w hSw; (try dsimp only at hSw); obtain ⟨s0, s1, s2⟩ := (BX7.out.here hSw).three; go_simp <;> with_reducible rfl
  (try simp only [Act.put, List.setIfInBounds_toArray, List.set_cons_zero, List.set_cons_succ])
  refine PX.wpAnyX_take (i := 7) (oi := ?_) (v := ?_) ?_ (by kernel_rfl) (by kernel_rfl) (by kernel_rfl) (by kernel_rfl) (by kernel_rfl) (fun _ _ _ h => h) (Or.inl ⟨?_, ?_⟩) (by assumption) ?_
  rotate_left 2
  · simp only [List.getElem?_toArray, List.getElem?_cons_succ, List.getElem?_cons_zero]; rfl
  · rfl
  · intro w hSw; (try dsimp only at hSw); obtain ⟨s0, s1, s2⟩ := ((BXd.out.here CHo.out).here hSw).three; go_simp <;> with_reducible rfl
  (try simp only [Act.put, List.setIfInBounds_toArray, List.set_cons_zero, List.set_cons_succ])
  refine PX.wpAnyX_one (i := 8) (o := ?_) (by kernel_rfl) ?_ (fun Kq hKq => ?_)
  rotate_left
  · simp only [List.getElem?_toArray, List.getElem?_cons_succ, List.getElem?_cons_zero]; rfl
  go_simp
  refine (K3.out _ _ _ _ _ _ _ (AT7.out.here BF3.out) (thence CHo.out BF3.out (Nat.le_refl _))).mono ?_
  rintro e q8 ⟨rfl, bj⟩
  have BF8 : Hid (Below v1.heap.size v1 q8) := thence (BF3.out) bj (Nat.le_refl _)
  clear bj
  go_wp2_with fail
  refine hKq.out _ _ (BF8.out) (fun hHeld => ?_)
  clear hKq Kq
  (try simp only [Act.put, List.setIfInBounds_toArray, List.set_cons_zero, List.set_cons_succ])
  refine PX.wpAnyX_take (i := 9) (oi := ?_) (v := ?_) ?_ (by kernel_rfl) (by kernel_rfl) (by kernel_rfl) (by kernel_rfl) (by kernel_rfl) (fun _ _ _ h => h) (Or.inl ⟨?_, ?_⟩) (by assumption) ?_
  rotate_left 2
  · simp only [List.getElem?_toArray, List.getElem?_cons_succ, List.getElem?_cons_zero]; rfl
  · rfl
  · intro w hSw; (try dsimp only at hSw); go_simp <;> with_reducible rfl
  (try simp only [Act.put, List.setIfInBounds_toArray, List.set_cons_zero, List.set_cons_succ])
  refine PX.wpAnyX_take (i := 10) (oi := ?_) (v := ?_) ?_ (by kernel_rfl) (by kernel_rfl) (by kernel_rfl) (by kernel_rfl) (by kernel_rfl) (fun _ _ _ h => h) (Or.inl ⟨?_, ?_⟩) (by assumption) ?_
  rotate_left 2
  · simp only [List.getElem?_toArray, List.getElem?_cons_succ, List.getElem?_cons_zero]; rfl
  · rfl
  · intro w hSw; (try dsimp only at hSw); go_simp <;> with_reducible rfl
  (try simp only [Act.put, List.setIfInBounds_toArray, List.set_cons_zero, List.set_cons_succ])
  refine PX.wpAnyX_take (i := 11) (oi := ?_) (v := ?_) ?_ (by kernel_rfl) (by kernel_rfl) (by kernel_rfl) (by kernel_rfl) (by kernel_rfl) (fun _ _ _ h => h) (Or.inl ⟨?_, ?_⟩) (by assumption) ?_
  rotate_left 2
  · simp only [List.getElem?_toArray, List.getElem?_cons_succ, List.getElem?_cons_zero]; rfl
  · rfl
  · intro w hSw; (try dsimp only at hSw); obtain ⟨s0, s1, s2⟩ := ((BXd.out.here CHo.out).here hSw).three; go_simp <;> with_reducible rfl
  (try simp only [Act.put, List.setIfInBounds_toArray, List.set_cons_zero, List.set_cons_succ])
  refine PX.wpAnyX_take (i := 12) (oi := ?_) (v := ?_) ?_ (by kernel_rfl) (by kernel_rfl) (by kernel_rfl) (by kernel_rfl) (by kernel_rfl) (fun _ _ _ h => h) (Or.inl ⟨?_, ?_⟩) (by assumption) ?_
  rotate_left 2
  · simp only [List.getElem?_toArray, List.getElem?_cons_succ, List.getElem?_cons_zero]; rfl
  · rfl
  · intro w hSw; (try dsimp only at hSw); obtain ⟨s0, s1, s2⟩ := ((BXO.out.here CHo.out).here hSw).three; go_simp <;> with_reducible rfl
  (try simp only [Act.put, List.setIfInBounds_toArray, List.set_cons_zero, List.set_cons_succ])
  refine PX.wpAnyX_take (i := 14) (oi := ?_) (v := ?_) ?_ (by kernel_rfl) (by kernel_rfl) (by kernel_rfl) (by kernel_rfl) (by kernel_rfl) (fun _ _ _ h => h) (Or.inl ⟨?_, ?_⟩) (by assumption) ?_
  rotate_left 2
  · simp only [List.getElem?_toArray, List.getElem?_cons_succ, List.getElem?_cons_zero]; rfl
  · rfl
  · intro w hSw; (try dsimp only at hSw); obtain ⟨s0, s1, s2⟩ := ((BXd.out.here CHo.out).here hSw).three; go_simp <;> with_reducible rfl
  (try simp only [Act.put, List.setIfInBounds_toArray, List.set_cons_zero, List.set_cons_succ])
  refine PX.wpAnyX_take (i := 15) (oi := ?_) (v := ?_) ?_ (by kernel_rfl) (by kernel_rfl) (by kernel_rfl) (by kernel_rfl) (by kernel_rfl) (fun _ _ _ h => h) (Or.inl ⟨?_, ?_⟩) (by assumption) ?_
  rotate_left 2
  · simp only [List.getElem?_toArray, List.getElem?_cons_succ, List.getElem?_cons_zero]; rfl
  · rfl
  · intro w hSw; (try dsimp only at hSw); obtain ⟨s0, s1, s2⟩ := ((BXO.out.here CHo.out).here hSw).three; go_simp <;> with_reducible rfl
  (try simp only [Act.put, List.setIfInBounds_toArray, List.set_cons_zero, List.set_cons_succ])
  refine PX.wpAnyX_one (i := 13) (o := ?_) (by kernel_rfl) ?_ (fun Kq hKq => ?_)
  rotate_left
  · simp only [List.getElem?_toArray, List.getElem?_cons_succ, List.getElem?_cons_zero]; rfl
  go_simp
  refine (K4.out _ (thence CHo.out BF8.out (Nat.le_refl _))).mono ?_
  rintro e q13 ⟨rfl, bj⟩
  have BF13 : Hid (Below v1.heap.size v1 q13) := thence (BF8.out) bj (Nat.le_refl _)
  clear bj
  go_wp2_with fail
  refine hKq.out _ _ (BF13.out) (fun hHeld => ?_)
  clear hKq Kq
  (try simp only [Act.put, List.setIfInBounds_toArray, List.set_cons_zero, List.set_cons_succ])
  refine PX.wpAnyX_one (i := 16) (o := ?_) (by kernel_rfl) ?_ (fun Kq hKq => ?_)
  rotate_left
  · simp only [List.getElem?_toArray, List.getElem?_cons_succ, List.getElem?_cons_zero]; rfl
  go_simp
  refine (K5.out _ (thence CHo.out BF13.out (Nat.le_refl _))).mono ?_
  rintro e q16 ⟨rfl, bj⟩
  have BF16 : Hid (Below v1.heap.size v1 q16) := thence (BF13.out) bj (Nat.le_refl _)
  clear bj
  go_wp2_with fail
  refine hKq.out _ _ (BF16.out) (fun hHeld => ?_)
  clear hKq Kq
  (try simp only [Act.put, List.setIfInBounds_toArray, List.set_cons_zero, List.set_cons_succ])
  refine PX.wpAnyX_take (i := 17) (oi := ?_) (v := ?_) ?_ (by kernel_rfl) (by kernel_rfl) (by kernel_rfl) (by kernel_rfl) (by kernel_rfl) (fun _ _ _ h => h) (Or.inl ⟨?_, ?_⟩) (by assumption) ?_
  rotate_left 2
  · simp only [List.getElem?_toArray, List.getElem?_cons_succ, List.getElem?_cons_zero]; rfl
  · rfl
  · intro w hSw; (try dsimp only at hSw); go_simp <;> with_reducible rfl
  (try simp only [Act.put, List.setIfInBounds_toArray, List.set_cons_zero, List.set_cons_succ])
  refine PX.wpAnyX_take (i := 18) (oi := ?_) (v := ?_) ?_ (by kernel_rfl) (by kernel_rfl) (by kernel_rfl) (by kernel_rfl) (by kernel_rfl) (fun _ _ _ h => h) (Or.inl ⟨?_, ?_⟩) (by assumption) ?_
  rotate_left 2
  · simp only [List.getElem?_toArray, List.getElem?_cons_succ, List.getElem?_cons_zero]; rfl
  · rfl
  · intro w hSw; (try dsimp only at hSw); go_simp <;> with_reducible rfl
  (try simp only [Act.put, List.setIfInBounds_toArray, List.set_cons_zero, List.set_cons_succ])
  refine PX.wpAnyX_take (i := 19) (oi := ?_) (v := ?_) ?_ (by kernel_rfl) (by kernel_rfl) (by kernel_rfl) (by kernel_rfl) (by kernel_rfl) (fun _ _ _ h => h) (Or.inl ⟨?_, ?_⟩) (by assumption) ?_
  rotate_left 2
  · simp only [List.getElem?_toArray, List.getElem?_cons_succ, List.getElem?_cons_zero]; rfl
  · rfl
  · intro w hSw; (try dsimp only at hSw); go_simp <;> with_reducible rfl
  (try simp only [Act.put, List.setIfInBounds_toArray, List.set_cons_zero, List.set_cons_succ])
  refine PX.wpAnyX_take (i := 20) (oi := ?_) (v := ?_) ?_ (by kernel_rfl) (by kernel_rfl) (by kernel_rfl) (by kernel_rfl) (by kernel_rfl) (fun _ _ _ h => h) (Or.inl ⟨?_, ?_⟩) (by assumption) ?_
  rotate_left 2
  · simp only [List.getElem?_toArray, List.getElem?_cons_succ, List.getElem?_cons_zero]; rfl
  · rfl
  · intro w hSw; (try dsimp only at hSw); obtain ⟨s0, s1, s2⟩ := ((BXo.out.here CHo.out).here hSw).three; go_simp <;> with_reducible rfl
  (try simp only [Act.put, List.setIfInBounds_toArray, List.set_cons_zero, List.set_cons_succ])
  refine PX.wpAnyX_take (i := 21) (oi := ?_) (v := ?_) ?_ (by kernel_rfl) (by kernel_rfl) (by kernel_rfl) (by kernel_rfl) (by kernel_rfl) (fun _ _ _ h => h) (Or.inl ⟨?_, ?_⟩) (by assumption) ?_
  rotate_left 2
  · simp only [List.getElem?_toArray, List.getElem?_cons_succ, List.getElem?_cons_zero]; rfl
  · rfl
  · intro w hSw; (try dsimp only at hSw); obtain ⟨s0, s1, s2⟩ := ((BXd.out.here CHo.out).here hSw).three; go_simp <;> with_reducible rfl
  (try simp only [Act.put, List.setIfInBounds_toArray, List.set_cons_zero, List.set_cons_succ])
  refine PX.wpAnyX_one (i := 22) (o := ?_) (by kernel_rfl) ?_ (fun Kq hKq => ?_)
  rotate_left
  · simp only [List.getElem?_toArray, List.getElem?_cons_succ, List.getElem?_cons_zero]; rfl
  go_simp
  refine (K6.out _ (thence CHo.out BF16.out (Nat.le_refl _))).mono ?_
  rintro e q22 ⟨rfl, bj⟩
  have BF22 : Hid (Below v1.heap.size v1 q22) := thence (BF16.out) bj (Nat.le_refl _)
  clear bj
  go_wp2_with fail
  refine hKq.out _ _ (BF22.out) (fun hHeld => ?_)
  clear hKq Kq
  (try simp only [Act.put, List.setIfInBounds_toArray, List.set_cons_zero, List.set_cons_succ])
  refine PX.wpAnyX_take (i := 23) (oi := ?_) (v := ?_) ?_ (by kernel_rfl) (by kernel_rfl) (by kernel_rfl) (by kernel_rfl) (by kernel_rfl) (fun _ _ _ h => h) (Or.inl ⟨?_, ?_⟩) (by assumption) ?_
  rotate_left 2
  · simp only [List.getElem?_toArray, List.getElem?_cons_succ, List.getElem?_cons_zero]; rfl
  · rfl
  · intro w hSw; (try dsimp only at hSw); go_simp <;> with_reducible rfl
  (try simp only [Act.put, List.setIfInBounds_toArray, List.set_cons_zero, List.set_cons_succ])
  refine PX.wpAnyX_last (o := ?_) (by kernel_rfl) ?_ (fun Kq hKq => ?_)
  rotate_left
  · simp only [List.getElem?_toArray, List.getElem?_cons_succ, List.getElem?_cons_zero]; rfl
  go_simp
  refine hKq.out _ _ ?_
  clear hKq Kq
  (try simp only [Act.put, List.setIfInBounds_toArray, List.set_cons_zero, List.set_cons_succ])
  refine PX.wpAnyX_done (by kernel_rfl) ?_ _
  have BF := BF22
  refine NoPanic.normal ?_
  have CHo := Lib.hid (thence CHo.out BF.out (Nat.le_refl _))
  have B67 := Lib.hid (thence B67.out BF.out (Nat.le_refl _))
  have BX7 := Lib.hid (BX7.out.here BF.out)
  have MS7 := Lib.hid (MS7.out.grow BF.out)
  have HI7 := Lib.hid (Nat.le_of_lt (Nat.lt_of_lt_of_le HI7.out BF.out.size))
  obtain ⟨p0, p1, p2⟩ := BX7.out.three
  go_wp2_with fail
  refine (spoil_may _ _ _ MS7.out HI7.out).mono ?_
  rintro e u1 ⟨⟨vv, rfl⟩, tk⟩
  have CHo := Lib.hid (Touch.below CHo.out tk PW6.out (Nat.le_refl _))
  have B67 := Lib.hid (Touch.below B67.out tk (Nat.le_refl _) (Nat.le_refl _))
  have AR1 := Lib.hid (AR1.out.grow B67.out)
  have AR3 := Lib.hid (AR3.out.grow B67.out)
  have lz1 := AR1.out.1
  have lz3 := AR3.out.1
  clear tk
  go_wp2_with fail
  go_loopw [25] (fun i wr => ∃ k : Nat, k ≤ y1 ∧ i = .int .i64 k ∧ Hid (Below Wo.heap.size Wo wr) ∧ Hid (AR Wo.heap.size wr x1 y1) ∧ Hid (AR Wo.heap.size wr x3 y3)) (fun i _ => y1 - (intOf i).toNat)
  case atStart => exact ⟨0, by omega, rfl, CHo.out, AR1.out, AR3.out⟩
  case round =>
    obtain ⟨k, hk, rfl, CW, E1, E3⟩ := hrel
    by_cases hlt : k < y1
    · obtain ⟨g, e1, e2, e3, e4, e5⟩ := E1.out.2 (by omega)
      subst e1
      obtain ⟨x, hx⟩ := e4 k hlt
      have hfz := e5 k
      have CN := Lib.hid (fun v => CW.out.setCell (p := ⟨g, k, none⟩) e2 v)
      have F1 := Lib.hid (fun y => E1.out.set g k y)
      have F3 := Lib.hid (fun y => E3.out.set g k y)
      have Hlt := Lib.hid hlt
      have i2 : (k : Int) < (y1 : Int) := by omega
      clear e4 e5
      go_wp2_with fail
      go_roundw
      case rel => exact ⟨k + 1, Hlt.out, by go_num, CN.out _, F1.out _, F3.out _⟩
      case measure => have h1 := Hlt.out; simp [intOf]; omega
    · have i2 : ¬ (k : Int) < (y1 : Int) := by omega
      go_wp2_with fail
      clear hk hlt i2
      obtain ⟨W8, hW8⟩ : ∃ W8 : World, W8 = wr := ⟨_, rfl⟩
      subst hW8
      go_loopw [26] (fun i wr => ∃ k : Nat, k ≤ y3 ∧ i = .int .i64 k ∧ Hid (Below Wo.heap.size Wo wr) ∧ Hid (AR Wo.heap.size wr x3 y3)) (fun i _ => y3 - (intOf i).toNat)
      case atStart => exact ⟨0, by omega, rfl, CW.out, E3.out⟩
      case round =>
        obtain ⟨k, hk, rfl, CW2, E4⟩ := hrel
        by_cases hlt : k < y3
        · obtain ⟨g, e1, e2, e3, e4, e5⟩ := E4.out.2 (by omega)
          subst e1
          obtain ⟨x, hx⟩ := e4 k hlt
          have hfz := e5 k
          have CN := Lib.hid (fun v => CW2.out.setCell (p := ⟨g, k, none⟩) e2 v)
          have F3 := Lib.hid (fun y => E4.out.set g k y)
          have Hlt := Lib.hid hlt
          have i2 : (k : Int) < (y3 : Int) := by omega
          clear e4 e5
          go_wp2_with fail
          go_roundw
          case rel => exact ⟨k + 1, Hlt.out, by go_num, CN.out _, F3.out _⟩
          case measure => have h1 := Hlt.out; simp [intOf]; omega
        · have i2 : ¬ (k : Int) < (y3 : Int) := by omega
          obtain ⟨p0, p1, p2⟩ := (BXo.out.here CW2.out).three
          obtain ⟨r0, r1, r2⟩ := (BXd.out.here CW2.out).three
          go_wp2_with fail
          refine (K7.out _ CW2.out).mono ?_
          rintro e z1 ⟨rfl, bj⟩
          have CZ := Lib.hid (thence CW2.out bj (Nat.le_refl _))
          clear bj
          go_wp2_with fail
          go_ret
          exact ⟨rfl, thence HBo.out CZ.out (Nat.le_refl _)⟩

theorem tells_walk (a : Option Addr) (n c : Nat) (a' : Option Addr) (n' c' : Nat) (D : Dv) (b : Option Addr) (m d : Nat) (b' : Option Addr) (m' d' : Nat) (O : Dv) (at_ nb : Int) (w : World) (hr : DevAt w.heap.size w a n c a' n' c' D) (hq : DevAt w.heap.size w b m d b' m' d' O) :
    Calls Try.prog 4 #[.agg #[.slice a n c, .slice a' n' c', .bool D.dead], .agg #[.slice b m d, .slice b' m' d', .bool O.dead], .int .i64 at_, .int .i64 nb] w fun e w' => e = .returned (.bool true) ∧ Below w.heap.size w w' := by
  rcases Bool.eq_false_or_eq_true (DK.great D) with hg | hg
  · exact tells_great a n c a' n' c' D b m d b' m' d' O at_ nb w hr hq hg
  · rcases Bool.eq_false_or_eq_true (DK.great O) with hg2 | hg2
    · exact tells_great2 a n c a' n' c' D b m d b' m' d' O at_ nb w hr hq hg hg2
    · exact tells_main a n c a' n' c' D b m d b' m' d' O at_ nb w hr hq hg hg2
end Go.Proofs.Ytiphpgfjfmlbjaa.PW
