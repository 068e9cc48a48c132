/-
  Layer 5's plain mathematics for the laws: the program's acts and the document's own make the same devices; a crash as both tell it.
-/
import Derived.Test.YtnhfkfihlkbkfaaActsRun
namespace Go.Proofs.Ytnhfkfihlkbkfaa.PW
open Go.RowKit
open DK (Dv)
set_option linter.unusedVariables false
set_option maxRecDepth 100000

theorem fl_sized' (l : List Nat) : DK.sized (DK.fl l) = DK.sized l := by
  unfold DK.fl
  split
  · next h => simp [DK.sized, h]
  · rfl
theorem norm_put (D : Dv) (a : Int) (l : List Nat) : DK.norm (DK.put D a l) = ⟨(DK.norm D).bs, (DK.norm D).ws ++ [(a, DK.fl l)], (DK.norm D).dead⟩ := by
  simp [DK.norm, DK.put, DK.fw]
theorem norm_rput (D : Dv) (a : Int) (l : List Nat) : DK.norm (rput D a l) = ⟨(DK.norm D).bs, (DK.norm D).ws ++ [(a, DK.fl l)], (DK.norm D).dead⟩ := by
  simp [DK.norm, rput, DK.fw, DK.fl_fl]
theorem filter_fw (a : Int) (ws : List (Int × List Nat)) : (ws.filter fun p => decide (p.1 ≠ a)).map DK.fw = (ws.map DK.fw).filter fun p => decide (p.1 ≠ a) := by
  rw [List.filter_map]
  rfl
theorem norm_sure (D : Dv) (a : Int) (l : List Nat) : DK.norm (DK.sure D a l) = ⟨(DK.norm D).bs.set a.toNat (DK.fl l), (DK.norm D).ws.filter (fun p => decide (p.1 ≠ a)), (DK.norm D).dead⟩ := by
  unfold DK.norm DK.sure
  simp only [List.map_set]
  rw [filter_fw]
theorem norm_rsure (D : Dv) (a : Int) (l : List Nat) : DK.norm (rsure D a l) = ⟨(DK.norm D).bs.set a.toNat (DK.fl l), (DK.norm D).ws.filter (fun p => decide (p.1 ≠ a)), (DK.norm D).dead⟩ := by
  unfold DK.norm rsure left_
  simp only [List.map_set, DK.fl_fl]
  rw [List.map_map, ← filter_fw]
  have : (DK.fw ∘ DK.fw) = DK.fw := by funext p; exact fw_fw p
  rw [this]
theorem lay_map (ws : List (Int × List Nat)) : ∀ bs, (DK.lay bs ws).map DK.fl = DK.lay (bs.map DK.fl) (ws.map DK.fw) := by
  induction ws with
  | nil => intro bs; rfl
  | cons p r ih =>
    intro bs
    show (DK.lay (bs.set p.1.toNat p.2) r).map DK.fl = DK.lay ((bs.map DK.fl).set p.1.toNat (DK.fl p.2)) (r.map DK.fw)
    rw [ih, List.map_set]
theorem norm_flushed (D : Dv) : DK.norm (DK.flushed D) = ⟨DK.lay (DK.norm D).bs (DK.norm D).ws, [], (DK.norm D).dead⟩ := by
  unfold DK.norm DK.flushed
  simp only [lay_map]
  rfl
theorem norm_rflushed {D : Dv} (h : DK.may D = true) : DK.norm (DK.rflushed D) = ⟨DK.lay (DK.norm D).bs (DK.norm D).ws, [], (DK.norm D).dead⟩ := by
  rw [← DK.same_iff.1 (same_flushed h), norm_flushed]
theorem norm_dead {D E : Dv} (h : DK.norm D = DK.norm E) : D.dead = E.dead := (DK.norm_eq.1 h).1
theorem norm_len {D E : Dv} (h : DK.norm D = DK.norm E) : D.ws.length = E.ws.length ∧ D.bs.length = E.bs.length := by
  have := DK.norm_eq.1 h
  have h1 := congrArg List.length this.2.1
  have h2 := congrArg List.length this.2.2
  simp at h1 h2
  exact ⟨h2, h1⟩
theorem errs_norm {D E : Dv} (h : DK.norm D = DK.norm E) (A : AK.Ac) : AK.errs D A = AK.errs E A := by
  unfold AK.errs; rw [norm_dead h, (norm_len h).1]
/-- The program's act and the document's own make the same device. -/
theorem did_norm {D E : Dv} (h : DK.norm D = DK.norm E) (hE : DK.may E = true) (A : AK.Ac) : DK.norm (AK.did D A) = DK.norm (AK.rdid E A) := by
  unfold AK.did AK.rdid
  rw [norm_dead h]
  split
  · exact h
  · split
    · rw [norm_put, norm_rput, h]
    · split
      · rw [norm_sure, norm_rsure, h]
      · rw [norm_flushed, norm_rflushed hE, h]

theorem look_len {at_ : Int} {i : List Nat} {ws : List (Int × List Nat)} (hi : i.length = 128) (hw : ∀ p ∈ ws, DK.sized p.2 = true) : (DK.look at_ i ws).length = 128 := by
  induction ws generalizing i with
  | nil => exact hi
  | cons p r ih =>
    show (DK.look at_ (if p.1 = at_ then DK.fl p.2 else i) r).length = 128
    refine ih ?_ (fun q hq => hw q (List.mem_cons_of_mem _ hq))
    split
    · exact DK.fl_length (hw p (List.mem_cons_self ..))
    · exact hi
theorem seen_len {D : Dv} (h : DK.may D = true) {k : Nat} (hk : k < D.bs.length) : (DK.seen D (k : Int)).length = 128 := by
  obtain ⟨m1, m2, m3, m4, m5, m6⟩ := DK.may_iff.1 h
  refine look_len ?_ (fun p hp => (okW_iff.1 (m6 p hp)).2)
  unfold DK.lies
  rw [Int.toNat_natCast]
  exact DK.fl_length (okB_sized (m5 _ (mem_getD hk)))
theorem may_rflushed {D : Dv} (h : DK.may D = true) (hd : D.dead = false) : DK.may (DK.rflushed D) = true := by
  obtain ⟨m1, m2, m3, m4, m5, m6⟩ := DK.may_iff.1 h
  have hlen : (DK.rflushed D).bs.length = D.bs.length := by simp [DK.rflushed]
  rw [DK.may_iff]
  refine ⟨by rw [hlen]; exact m1, by rw [hlen]; exact m2, Nat.zero_le _, fun _ => rfl, fun x hx => ?_, fun p hp => nomatch hp⟩
  obtain ⟨k, hk, rfl⟩ := List.mem_map.1 hx
  rw [List.mem_range] at hk
  exact okB_of (by rw [DK.sized_iff]; exact .inr (seen_len h hk)) hd
theorem may_rsure {D : Dv} {at_ : Int} {l : List Nat} (h : DK.wcode D at_ l = 0) : DK.may (rsure D at_ l) = true := by
  obtain ⟨h1, h2, h3, h4⟩ := wcode_zero h
  obtain ⟨m1, m2, m3, m4, m5, m6⟩ := DK.may_iff.1 h1
  have hlen : (rsure D at_ l).bs.length = D.bs.length := by simp [rsure]
  rw [DK.may_iff]
  refine ⟨by rw [hlen]; exact m1, by rw [hlen]; exact m2, ?_, (fun hd => by rw [show (rsure D at_ l).dead = D.dead from rfl, h4] at hd; cases hd), fun x hx => ?_, fun p hp => ?_⟩
  · show (left_ at_ D.ws).length ≤ 1024
    unfold left_
    rw [List.length_map]
    exact Nat.le_trans (List.length_filter_le _ _) m3
  · rcases List.mem_or_eq_of_mem_set hx with hx | rfl
    · exact m5 x hx
    · exact okB_of (by rw [fl_sized']; exact h3) h4
  · obtain ⟨q, hq, rfl⟩ := List.mem_map.1 hp
    have := okW_iff.1 (m6 q (List.mem_filter.1 hq).1)
    exact okW_iff.2 ⟨by rw [has_len hlen]; exact this.1, by show DK.sized (DK.fl q.2) = true; rw [fl_sized']; exact this.2⟩
theorem rdid_may {D : Dv} {A : AK.Ac} (hm : DK.may D = true) (hk : AK.okK D A = true) (he : AK.errs D A = false) : DK.may (AK.rdid D A) = true ∧ (AK.rdid D A).bs.length = D.bs.length := by
  obtain ⟨d, k, p, l⟩ := A
  cases hd : D.dead with
  | true => simp [AK.rdid, hd, hm]
  | false =>
    by_cases h1 : k = 1
    · subst h1
      have hw := okK_wcode (.inl rfl) hm hk hd
      have h4 : ¬ 1024 ≤ D.ws.length := by simpa [AK.errs, hd] using he
      have e : AK.rdid D ⟨d, 1, p, l⟩ = DK.put D p (DK.fl l) := by simp [AK.rdid, hd, rput, DK.put]
      rw [e]
      obtain ⟨w1, w2, w3, w4⟩ := wcode_zero hw
      exact ⟨may_put (wcode'_of (wcode_of w1 w2 (by rw [fl_sized']; exact w3) w4) (by omega)), rfl⟩
    by_cases h2 : k = 2
    · subst h2
      have hw := okK_wcode (.inr rfl) hm hk hd
      have e : AK.rdid D ⟨d, 2, p, l⟩ = rsure D p l := by simp [AK.rdid, hd]
      rw [e]
      exact ⟨may_rsure hw, by simp [rsure]⟩
    · have e : AK.rdid D ⟨d, k, p, l⟩ = DK.rflushed D := by simp [AK.rdid, hd, h1, h2]
      rw [e]
      exact ⟨may_rflushed hm hd, by simp [DK.rflushed]⟩
/-- Acts that may be done by the first of two such ways are done by the other, and make the same. -/
theorem go_norm {Bs : List Dv} {As : List AK.Ac} (hA : ∀ A ∈ As, AK.okA Bs A = true) : ∀ {Ds Es : List Dv}, Alike Bs Ds → Alike Bs Es → Ds.map DK.norm = Es.map DK.norm →
    (AK.go AK.did Ds As = none ∧ AK.go AK.rdid Es As = none) ∨ ∃ Xs Ys, AK.go AK.did Ds As = some Xs ∧ AK.go AK.rdid Es As = some Ys ∧ Xs.map DK.norm = Ys.map DK.norm ∧ Alike Bs Xs ∧ Alike Bs Ys := by
  induction As with
  | nil => intro Ds Es h1 h2 h3; exact .inr ⟨Ds, Es, rfl, rfl, h3, h1, h2⟩
  | cons A r ih =>
    intro Ds Es h1 h2 h3
    have hok := hA A (List.mem_cons_self ..)
    unfold AK.okA at hok
    rw [Bool.and_eq_true, AK.isOf_iff] at hok
    obtain ⟨⟨q0, q1⟩, hok⟩ := hok
    have hq : A.disk.toNat < Bs.length := by omega
    have hn : DK.norm (Ds.getD A.disk.toNat Dv.nil) = DK.norm (Es.getD A.disk.toNat Dv.nil) := DK.map_getD_eq h3 _
    have he := errs_norm hn A
    rw [AK.go, AK.go, ← he]
    cases hE : AK.errs (Ds.getD A.disk.toNat Dv.nil) A with
    | true => exact .inl ⟨rfl, rfl⟩
    | false =>
      rw [hE] at he
      have k1 : AK.okK (Ds.getD A.disk.toNat Dv.nil) A = true := by rw [okK_alike (h1.bs _ hq)]; exact hok
      have k2 : AK.okK (Es.getD A.disk.toNat Dv.nil) A = true := by rw [okK_alike (h2.bs _ hq)]; exact hok
      have d1 := did_may (h1.may _ hq) k1 hE
      have d2 := rdid_may (h2.may _ hq) k2 he.symm
      have g1 := h1.put hq d1.1 (d1.2.trans (h1.bs _ hq))
      have g2 := h2.put hq d2.1 (d2.2.trans (h2.bs _ hq))
      exact ih (fun B hB => hA B (List.mem_cons_of_mem _ hB)) g1 g2 (by rw [List.map_set, List.map_set, h3, did_norm hn (h2.may _ hq)])
theorem sameD_refl (Ds : List Dv) : AK.sameD Ds Ds = true := by simp [AK.sameD]
theorem ran_norm (Ds : List Dv) (As : List AK.Ac) (n : Int) : AK.ncode Ds As n AK.did = AK.ncode Ds As n AK.rdid ∧ AK.sameD (AK.ran Ds As n AK.did) (AK.ran Ds As n AK.rdid) = true := by
  by_cases h0 : AK.acode Ds As = 0
  · obtain ⟨hm, _, hA⟩ := AK.acode_zero h0
    rcases go_norm (Bs := Ds) (As := As.take n.toNat) (fun A hA' => hA A (List.mem_of_mem_take hA')) (Alike.refl hm) (Alike.refl hm) rfl with ⟨g1, g2⟩ | ⟨Xs, Ys, g1, g2, g3, _, _⟩
    · have e : AK.ncode Ds As n AK.did = AK.ncode Ds As n AK.rdid := by simp [AK.ncode, h0, g1, g2]
      refine ⟨e, ?_⟩
      unfold AK.ran
      rw [← e, g1, g2]
      exact sameD_refl _
    · have e : AK.ncode Ds As n AK.did = AK.ncode Ds As n AK.rdid := by simp [AK.ncode, h0, g1, g2]
      refine ⟨e, ?_⟩
      unfold AK.ran
      rw [← e, g1, g2]
      split
      · simp [AK.sameD, g3]
      · exact sameD_refl _
  · have e : AK.ncode Ds As n AK.did = AK.ncode Ds As n AK.rdid := by rw [ncode_c h0, ncode_c h0]
    refine ⟨e, ?_⟩
    rw [ran_no (by rw [ncode_c h0]; exact h0), ran_no (by rw [ncode_c h0]; exact h0)]
    rfl
/-! A crash. -/
theorem norm_cut (D : Dv) (ks : List Bool) : DK.norm (AK.cut D ks) = DK.norm (AK.rcut D ks) := by
  unfold AK.cut AK.rcut DK.norm
  simp only [lay_map]
  rw [List.map_map]
  have : (DK.fw ∘ DK.fw) = DK.fw := by funext p; exact fw_fw p
  rw [this]
theorem cuts_norm (Ds : List Dv) (ks : List Bool) : (AK.cuts AK.cut Ds ks).map DK.norm = (AK.cuts AK.rcut Ds ks).map DK.norm := by
  induction Ds generalizing ks with
  | nil => rfl
  | cons D r ih =>
    show DK.norm (AK.cut D _) :: (AK.cuts AK.cut r _).map DK.norm = DK.norm (AK.rcut D _) :: (AK.cuts AK.rcut r _).map DK.norm
    rw [norm_cut, ih]
theorem crashed_norm (Ds : List Dv) (ks : List Bool) : AK.sameD (AK.crashed Ds ks AK.cut) (AK.crashed Ds ks AK.rcut) = true := by
  unfold AK.crashed
  split
  · simp [AK.sameD, cuts_norm]
  · exact sameD_refl _
end Go.Proofs.Ytnhfkfihlkbkfaa.PW
