/-
  Layer 4's plain mathematics for the laws: what a write, one that lasts, a flush, a death leave; which devices are the same.
-/
import Derived.Test.YtnhfkfihlkbkfaaDiskFua
import Derived.Test.YtnhfkfihlkbkfaaDiskSure
import Derived.Test.YtnhfkfihlkbkfaaDiskFlush
import Derived.Test.YtnhfkfihlkbkfaaDiskTold
namespace Go.Proofs.Ytnhfkfihlkbkfaa.PW
open Go.RowKit
open DK (Dv)
set_option linter.unusedVariables false
set_option maxRecDepth 100000

theorem wcode_zero {D : Dv} {at_ : Int} {l : List Nat} (h : DK.wcode D at_ l = 0) : DK.may D = true ∧ DK.has D at_ = true ∧ DK.sized l = true ∧ D.dead = false := by
  rcases Bool.eq_false_or_eq_true (DK.may D) with h1 | h1 <;> rcases Bool.eq_false_or_eq_true (DK.has D at_) with h2 | h2 <;> rcases Bool.eq_false_or_eq_true (DK.sized l) with h3 | h3 <;> rcases Bool.eq_false_or_eq_true D.dead with h4 | h4 <;> simp [DK.wcode, h1, h2, h3, h4] at h ⊢
theorem wcode'_zero {D : Dv} {at_ : Int} {l : List Nat} (h : DK.wcode' D at_ l = 0) : DK.wcode D at_ l = 0 ∧ D.ws.length < 1024 := by
  unfold DK.wcode' at h
  split at h
  · next h1 => exact absurd h h1
  · next h1 =>
    split at h
    · cases h
    · next h2 => exact ⟨by omega, by omega⟩
theorem fcode_zero {D : Dv} (h : DK.fcode D = 0) : DK.may D = true ∧ D.dead = false := by
  rcases Bool.eq_false_or_eq_true (DK.may D) with h1 | h1 <;> rcases Bool.eq_false_or_eq_true D.dead with h4 | h4 <;> simp [DK.fcode, h1, h4] at h ⊢
theorem rcode_of {D : Dv} {at_ : Int} (h1 : DK.may D = true) (h2 : DK.has D at_ = true) (h3 : D.dead = false) : DK.rcode D at_ = 0 := by simp [DK.rcode, h1, h2, h3]
theorem fcode_of {D : Dv} (h1 : DK.may D = true) (h3 : D.dead = false) : DK.fcode D = 0 := by simp [DK.fcode, h1, h3]
theorem wcode_of {D : Dv} {at_ : Int} {l : List Nat} (h1 : DK.may D = true) (h2 : DK.has D at_ = true) (h3 : DK.sized l = true) (h4 : D.dead = false) : DK.wcode D at_ l = 0 := by simp [DK.wcode, h1, h2, h3, h4]
theorem wcode'_of {D : Dv} {at_ : Int} {l : List Nat} (h : DK.wcode D at_ l = 0) (h2 : D.ws.length < 1024) : DK.wcode' D at_ l = 0 := by simp [DK.wcode', h]; omega
theorem okB_of {D : Dv} {l : List Nat} (h : DK.sized l = true) (hd : D.dead = false) : DK.okB D l = true := by simp [DK.okB, h, hd]
theorem okB_sized {D : Dv} {l : List Nat} (h : DK.okB D l = true) : DK.sized l = true := by unfold DK.okB at h; rw [Bool.and_eq_true] at h; exact h.1
theorem okW_iff {D : Dv} {p : Int × List Nat} : DK.okW D p = true ↔ DK.has D p.1 = true ∧ DK.sized p.2 = true := by unfold DK.okW; rw [Bool.and_eq_true]
theorem has_len {D E : Dv} (h : D.bs.length = E.bs.length) (at_ : Int) : DK.has D at_ = DK.has E at_ := by unfold DK.has; rw [h]
theorem may_fresh {n : Nat} (h1 : 1 ≤ n) (h2 : n ≤ 256) : DK.may (DK.fresh n) = true := by
  rw [DK.may_iff]
  refine ⟨by simp [DK.fresh]; omega, by simp [DK.fresh]; omega, by simp [DK.fresh], (fun h => by cases h), fun l hl => ?_, fun p hp => nomatch hp⟩
  obtain rfl := (List.mem_replicate.1 hl).2
  rfl
theorem may_put {D : Dv} {at_ : Int} {l : List Nat} (h : DK.wcode' D at_ l = 0) : DK.may (DK.put D at_ l) = true := by
  obtain ⟨h0, hw⟩ := wcode'_zero h
  obtain ⟨h1, h2, h3, h4⟩ := wcode_zero h0
  obtain ⟨m1, m2, m3, m4, m5, m6⟩ := DK.may_iff.1 h1
  rw [DK.may_iff]
  refine ⟨m1, m2, by simp [DK.put]; omega, (fun hd => by rw [show (DK.put D at_ l).dead = D.dead from rfl, h4] at hd; cases hd), m5, fun p hp => ?_⟩
  rcases List.mem_append.1 hp with hp | hp
  · exact m6 p hp
  · obtain rfl := List.mem_singleton.1 hp
    exact okW_iff.2 ⟨h2, h3⟩
theorem may_sure {D : Dv} {at_ : Int} {l : List Nat} (h : DK.wcode D at_ l = 0) : DK.may (DK.sure D at_ l) = true := by
  obtain ⟨h1, h2, h3, h4⟩ := wcode_zero h
  obtain ⟨m1, m2, m3, m4, m5, m6⟩ := DK.may_iff.1 h1
  have hlen : (DK.sure D at_ l).bs.length = D.bs.length := by simp [DK.sure]
  rw [DK.may_iff]
  refine ⟨by rw [hlen]; exact m1, by rw [hlen]; exact m2, ?_, (fun hd => by rw [show (DK.sure D at_ l).dead = D.dead from rfl, h4] at hd; cases hd), fun x hx => ?_, fun p hp => ?_⟩
  · exact Nat.le_trans (List.length_filter_le _ _) m3
  · rcases List.mem_or_eq_of_mem_set hx with hx | rfl
    · exact m5 x hx
    · exact okB_of h3 h4
  · have := okW_iff.1 (m6 p (List.mem_filter.1 hp).1)
    exact okW_iff.2 ⟨by rw [has_len hlen]; exact this.1, this.2⟩
theorem lay_length (ws : List (Int × List Nat)) : ∀ bs, (DK.lay bs ws).length = bs.length := by
  induction ws with
  | nil => intro bs; rfl
  | cons p r ih => intro bs; show (DK.lay (bs.set p.1.toNat p.2) r).length = _; rw [ih, List.length_set]
theorem lay_mem (ws : List (Int × List Nat)) : ∀ bs x, x ∈ DK.lay bs ws → x ∈ bs ∨ ∃ p ∈ ws, x = p.2 := by
  induction ws with
  | nil => intro bs x h; exact .inl h
  | cons p r ih =>
    intro bs x h
    rcases ih (bs.set p.1.toNat p.2) x h with h | ⟨q, hq, e⟩
    · rcases List.mem_or_eq_of_mem_set h with h | h
      · exact .inl h
      · exact .inr ⟨p, List.mem_cons_self .., h⟩
    · exact .inr ⟨q, List.mem_cons_of_mem _ hq, e⟩
theorem may_flushed {D : Dv} (h : DK.fcode D = 0) : DK.may (DK.flushed D) = true := by
  obtain ⟨h1, h4⟩ := fcode_zero h
  obtain ⟨m1, m2, m3, m4, m5, m6⟩ := DK.may_iff.1 h1
  have hlen : (DK.flushed D).bs.length = D.bs.length := lay_length _ _
  rw [DK.may_iff]
  refine ⟨by rw [hlen]; exact m1, by rw [hlen]; exact m2, Nat.zero_le _, fun _ => rfl, fun x hx => ?_, fun p hp => nomatch hp⟩
  rcases lay_mem _ _ _ hx with hx | ⟨p, hp, rfl⟩
  · exact okB_of (okB_sized (m5 x hx)) h4
  · exact okB_of (okW_iff.1 (m6 p hp)).2 h4
theorem may_killed {D : Dv} (h : DK.may D = true) : DK.may (DK.killed D) = true := by
  obtain ⟨m1, m2, m3, m4, m5, m6⟩ := DK.may_iff.1 h
  have hlen : (DK.killed D).bs.length = D.bs.length := by simp [DK.killed]
  rw [DK.may_iff]
  refine ⟨by rw [hlen]; exact m1, by rw [hlen]; exact m2, Nat.zero_le _, fun _ => rfl, fun x hx => ?_, fun p hp => nomatch hp⟩
  obtain rfl := (List.mem_replicate.1 hx).2
  rfl

/-! What is read, what lasts. -/
theorem lies_put (D : Dv) (at_ o : Int) (l : List Nat) : DK.lies (DK.put D at_ l) o = DK.lies D o := rfl
theorem seen_put (D : Dv) (at_ o : Int) (l : List Nat) : DK.seen (DK.put D at_ l) o = if at_ = o then DK.fl l else DK.seen D o := by
  unfold DK.seen
  rw [show (DK.put D at_ l).ws = D.ws ++ [(at_, l)] from rfl, DK.look_snoc]
  rfl
theorem look_filter (at_ o : Int) (ws : List (Int × List Nat)) (i : List Nat) (h : at_ ≠ o) : DK.look o i (ws.filter fun p => decide (p.1 ≠ at_)) = DK.look o i ws := by
  induction ws generalizing i with
  | nil => rfl
  | cons p r ih =>
    by_cases hp : p.1 = at_
    · rw [List.filter_cons_of_neg (by simp [hp]), ih]
      show _ = DK.look o (if p.1 = o then DK.fl p.2 else i) r
      rw [if_neg (by omega)]
    · rw [List.filter_cons_of_pos (by simp [hp])]
      exact ih _
theorem lies_sure {D : Dv} {at_ o : Int} {l : List Nat} (h : DK.has D at_ = true) (ho : 0 ≤ o) : DK.lies (DK.sure D at_ l) o = if at_ = o then DK.fl l else DK.lies D o := by
  rw [DK.has_iff] at h
  have hlt : at_.toNat < D.bs.length := by omega
  unfold DK.lies DK.sure
  split
  · next e => subst e; simp [List.getD, hlt]
  · next e =>
    have : at_.toNat ≠ o.toNat := by omega
    simp [List.getD, List.getElem?_set_ne this]
theorem seen_sure {D : Dv} {at_ o : Int} {l : List Nat} (h : DK.has D at_ = true) (ho : 0 ≤ o) : DK.seen (DK.sure D at_ l) o = if at_ = o then DK.fl l else DK.seen D o := by
  unfold DK.seen
  rw [lies_sure h ho]
  split
  · next e =>
    subst e
    exact DK.look_none _ _ (fun p hp => by have := (List.mem_filter.1 hp).2; simpa using this)
  · next e => exact look_filter at_ o D.ws _ e
theorem look_lay (o : Int) (ho : 0 ≤ o) (ws : List (Int × List Nat)) : ∀ bs, (∀ p ∈ ws, 0 ≤ p.1 ∧ p.1 < (bs.length : Int)) → DK.fl ((DK.lay bs ws).getD o.toNat []) = DK.look o (DK.fl (bs.getD o.toNat [])) ws := by
  induction ws with
  | nil => intro bs _; rfl
  | cons p r ih =>
    intro bs h
    have hp := h p (List.mem_cons_self ..)
    show DK.fl ((DK.lay (bs.set p.1.toNat p.2) r).getD o.toNat []) = DK.look o (if p.1 = o then DK.fl p.2 else DK.fl (bs.getD o.toNat [])) r
    rw [ih _ (fun q hq => by rw [List.length_set]; exact h q (List.mem_cons_of_mem _ hq))]
    congr 1
    have hlt : p.1.toNat < bs.length := by omega
    split
    · next e => subst e; simp [List.getD, hlt]
    · next e =>
      have : p.1.toNat ≠ o.toNat := by omega
      simp [List.getD, List.getElem?_set_ne this]
theorem lies_flushed {D : Dv} (h : DK.may D = true) {o : Int} (ho : 0 ≤ o) : DK.lies (DK.flushed D) o = DK.seen D o :=
  look_lay o ho D.ws D.bs (fun p hp => DK.has_iff.1 (okW_iff.1 ((DK.may_iff.1 h).2.2.2.2.2 p hp)).1)
theorem seen_flushed {D : Dv} (h : DK.may D = true) {o : Int} (ho : 0 ≤ o) : DK.seen (DK.flushed D) o = DK.seen D o := by
  show DK.look o (DK.lies (DK.flushed D) o) [] = _
  rw [DK.look_nil, lies_flushed h ho]

/-! The same devices. -/
theorem look_fl (o : Int) (ws : List (Int × List Nat)) : ∀ i, DK.fl i = i → DK.fl (DK.look o i ws) = DK.look o i ws := by
  induction ws with
  | nil => intro i h; exact h
  | cons p r ih =>
    intro i h
    show DK.fl (DK.look o (if p.1 = o then DK.fl p.2 else i) r) = DK.look o (if p.1 = o then DK.fl p.2 else i) r
    apply ih
    split
    · exact DK.fl_fl _
    · exact h
theorem seen_fl (D : Dv) (o : Int) : DK.fl (DK.seen D o) = DK.seen D o := look_fl o _ _ (DK.fl_fl _)
theorem fw_fw (p : Int × List Nat) : DK.fw (DK.fw p) = DK.fw p := by show (p.1, DK.fl (DK.fl p.2)) = (p.1, DK.fl p.2); rw [DK.fl_fl]
theorem same_put (D : Dv) (at_ : Int) (l : List Nat) : DK.same (DK.put D at_ l) (rput D at_ l) = true := by
  rw [DK.same_iff, DK.norm_eq]
  refine ⟨rfl, rfl, ?_⟩
  show (D.ws ++ [(at_, l)]).map DK.fw = (D.ws ++ [(at_, DK.fl l)]).map DK.fw
  simp [DK.fw, DK.fl_fl]
theorem same_sure (D : Dv) (at_ : Int) (l : List Nat) : DK.same (DK.sure D at_ l) (rsure D at_ l) = true := by
  rw [DK.same_iff, DK.norm_eq]
  refine ⟨rfl, ?_, ?_⟩
  · show (D.bs.set at_.toNat l).map DK.fl = (D.bs.set at_.toNat (DK.fl l)).map DK.fl
    rw [List.map_set, List.map_set, DK.fl_fl]
  · show (D.ws.filter _).map DK.fw = ((D.ws.filter _).map DK.fw).map DK.fw
    rw [List.map_map]
    congr 1
    funext p
    exact (fw_fw p).symm
theorem same_flushed {D : Dv} (h : DK.may D = true) : DK.same (DK.flushed D) (DK.rflushed D) = true := by
  rw [DK.same_iff, DK.norm_eq]
  refine ⟨rfl, ?_, rfl⟩
  show (DK.flushed D).bs.map DK.fl = (DK.rflushed D).bs.map DK.fl
  have hlen : (DK.flushed D).bs.length = D.bs.length := lay_length _ _
  refine DK.map_ext_getD (d := []) (by rw [hlen]; simp [DK.rflushed]) (fun k hk => ?_)
  rw [hlen] at hk
  have h1 := lies_flushed h (o := (k : Int)) (Int.natCast_nonneg _)
  have h2 : (DK.rflushed D).bs.getD k [] = DK.seen D (k : Int) := by simp [DK.rflushed, List.getD, hk]
  rw [h2, seen_fl, ← h1]
  rfl
theorem same_write (D : Dv) (at_ : Int) (l : List Nat) : DK.same (writeDev D at_ l) (rwriteD D at_ l) = true := by
  unfold writeDev rwriteD; split
  · exact same_put D at_ l
  · exact DK.same_self _
theorem same_fua (D : Dv) (at_ : Int) (l : List Nat) : DK.same (fuaDev D at_ l) (rfuaD D at_ l) = true := by
  unfold fuaDev rfuaD; split
  · exact same_sure D at_ l
  · exact DK.same_self _
theorem same_flush (D : Dv) : DK.same (flushDev D) (rflushDev D) = true := by
  unfold flushDev rflushDev; split
  · next h => exact same_flushed (fcode_zero h).1
  · exact DK.same_self _
/-! Not too great. -/
theorem fit_nil : Fit DK.Dv.nil := ⟨Nat.zero_le _, Nat.zero_le _, (fun _ h => nomatch h), (fun _ h => nomatch h)⟩
/-- A device that may be is not too great. -/
theorem sized_small {l : List Nat} (h : DK.sized l = true) : l.length ≤ 100000 := by rw [DK.sized_iff] at h; omega
theorem fit_may {D : Dv} (h : DK.may D = true) : Fit D := by
  obtain ⟨m1, m2, m3, m4, m5, m6⟩ := DK.may_iff.1 h
  exact ⟨by omega, by omega, fun l hl => sized_small (okB_sized (m5 l hl)), fun p hp => sized_small (okW_iff.1 (m6 p hp)).2⟩
theorem fit_write (D : Dv) (at_ : Int) (l : List Nat) : Fit (writeDev D at_ l) := by
  unfold writeDev; split
  · next h => exact fit_may (may_put h)
  · exact fit_nil
theorem fit_fua (D : Dv) (at_ : Int) (l : List Nat) : Fit (fuaDev D at_ l) := by
  unfold fuaDev; split
  · next h => exact fit_may (may_sure h)
  · exact fit_nil
theorem fit_flush (D : Dv) : Fit (flushDev D) := by
  unfold flushDev; split
  · next h => exact fit_may (may_flushed h)
  · exact fit_nil
theorem fit_kill (D : Dv) : Fit (killDev D) := by
  unfold killDev; split
  · next h => exact fit_may (may_killed h)
  · exact fit_nil
theorem fl_small {l : List Nat} (h : l.length ≤ 100000) : (DK.fl l).length ≤ 100000 := by unfold DK.fl; split <;> simp_all
theorem fit_rwrite {D : Dv} (at_ : Int) (l : List Nat) : Fit (rwriteD D at_ l) := by
  unfold rwriteD; split
  · next h =>
    have f := fit_may (may_put h)
    refine ⟨f.1, by have := f.2.1; simp [DK.put, rput] at this ⊢; exact this, f.2.2.1, fun p hp => ?_⟩
    rcases List.mem_append.1 hp with hp | hp
    · exact f.2.2.2 p (List.mem_append.2 (.inl hp))
    · obtain rfl := List.mem_singleton.1 hp
      exact fl_small (f.2.2.2 (at_, l) (List.mem_append.2 (.inr (List.mem_singleton.2 rfl))))
  · exact fit_nil
theorem fit_rfua {D : Dv} (at_ : Int) (l : List Nat) : Fit (rfuaD D at_ l) := by
  unfold rfuaD; split
  · next h =>
    have f := fit_may (may_sure h)
    have g := fit_may (wcode_zero h).1
    refine ⟨by have := f.1; simp [DK.sure, rsure] at this ⊢; exact this, ?_, fun x hx => ?_, fun p hp => ?_⟩
    · show (left_ at_ D.ws).length ≤ 2000
      unfold left_
      rw [List.length_map]
      exact Nat.le_trans (List.length_filter_le _ _) g.2.1
    · rcases List.mem_or_eq_of_mem_set hx with hx | rfl
      · exact g.2.2.1 x hx
      · exact fl_small (sized_small (wcode_zero h).2.2.1)
    · obtain ⟨q, hq, rfl⟩ := List.mem_map.1 hp
      exact fl_small (g.2.2.2 q (List.mem_filter.1 hq).1)
  · exact fit_nil
theorem fit_rflush {D : Dv} (hb : Dv.Byt D) : Fit (rflushDev D) := by
  unfold rflushDev; split
  · next h =>
    obtain ⟨h1, h2⟩ := fcode_zero h
    have g := fit_may h1
    refine ⟨by show ((List.range D.bs.length).map _).length ≤ 1000; rw [List.length_map, List.length_range]; exact g.1, Nat.zero_le _, fun x hx => ?_, fun p hp => nomatch hp⟩
    obtain ⟨k, hk, rfl⟩ := List.mem_map.1 hx
    rw [List.mem_range] at hk
    have := (seen_ok hb (rcode_of h1 (at_ := (k : Int)) (by rw [DK.has_iff]; omega) h2)).1
    omega
  · exact fit_nil
end Go.Proofs.Ytnhfkfihlkbkfaa.PW
