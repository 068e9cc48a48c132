/-
  What layer 5's laws ask of the mathematics: what acts and a crash leave may be; parts of acts; what lasts behind a crash.
-/
import Derived.Test.YtnhfkfihlkbkfaaActsLawMath
import Derived.Test.YtnhfkfihlkbkfaaActsWaits
import Derived.Test.YtnhfkfihlkbkfaaActsCrash
namespace Go.Proofs.Ytnhfkfihlkbkfaa.PW
open Go.RowKit
open DK (Dv)
set_option linter.unusedVariables false
set_option linter.unusedSimpArgs false
set_option maxRecDepth 100000

theorem Alike.mays {Ds Es : List Dv} (h : Alike Ds Es) (hm : AK.mays Ds = true) : AK.mays Es = true := by
  obtain ⟨h1, h2, h3⟩ := AK.mays_iff.1 hm
  exact AK.mays_iff.2 ⟨by rw [h.len]; exact h1, by rw [h.len]; exact h2, AK.all_getD (d := Dv.nil) (fun k hk => h.may k (by rw [← h.len]; exact hk))⟩
theorem mays_fit {Ds : List Dv} (h : AK.mays Ds = true) : ∀ D ∈ Ds, Fit D := fun D hD => fit_may ((AK.mays_iff.1 h).2.2 D hD)
theorem Alike.okA {Ds Es : List Dv} (h : Alike Ds Es) (A : AK.Ac) : AK.okA Es A = AK.okA Ds A := by
  unfold AK.okA AK.isOf
  rw [h.len]
  cases hq : decide (0 ≤ A.disk) && decide (A.disk < (Ds.length : Int)) with
  | false => rfl
  | true =>
    simp only [Bool.and_eq_true, decide_eq_true_eq] at hq
    rw [okK_alike (h.bs _ (by omega))]
theorem ran_go {Ds : List Dv} {As : List AK.Ac} {n : Int} {f : Dv → AK.Ac → Dv} (h : AK.ncode Ds As n f = 0) : AK.acode Ds As = 0 ∧ 0 ≤ n ∧ n ≤ (As.length : Int) ∧ AK.go f Ds (As.take n.toNat) = some (AK.ran Ds As n f) := by
  by_cases h0 : AK.acode Ds As = 0
  · by_cases h1 : n < 0 ∨ (As.length : Int) < n
    · rw [ncode_n h0 h1] at h; cases h
    · refine ⟨h0, by omega, by omega, ?_⟩
      unfold AK.ran
      rw [if_pos h]
      unfold AK.ncode at h
      rw [if_neg (by rw [h0]; simp), if_neg h1] at h
      cases hg : AK.go f Ds (As.take n.toNat) with
      | none => rw [hg] at h; cases h
      | some Xs => rfl
  · rw [ncode_c h0] at h; exact absurd h h0
theorem ran_alike {Ds : List Dv} {As : List AK.Ac} {n : Int} (h : AK.ncode Ds As n AK.did = 0) : AK.mays Ds = true ∧ Alike Ds (AK.ran Ds As n AK.did) ∧ Alike Ds (AK.ran Ds As n AK.rdid) := by
  have h' : AK.ncode Ds As n AK.rdid = 0 := by rw [← (ran_norm Ds As n).1]; exact h
  obtain ⟨h0, h1, h2, hg⟩ := ran_go h
  obtain ⟨_, _, _, hg'⟩ := ran_go h'
  obtain ⟨hm, _, hA⟩ := AK.acode_zero h0
  rcases go_norm (Bs := Ds) (As := As.take n.toNat) (fun A hA' => hA A (List.mem_of_mem_take hA')) (Alike.refl hm) (Alike.refl hm) rfl with ⟨g1, g2⟩ | ⟨Xs, Ys, g1, g2, g3, a1, a2⟩
  · rw [hg] at g1; cases g1
  · rw [hg] at g1; injection g1 with g1
    rw [hg'] at g2; injection g2 with g2
    exact ⟨hm, by rw [g1]; exact a1, by rw [g2]; exact a2⟩
theorem ran_fit (Ds : List Dv) (As : List AK.Ac) (n : Int) : (∀ D ∈ AK.ran Ds As n AK.did, Fit D) ∧ ∀ D ∈ AK.ran Ds As n AK.rdid, Fit D := by
  by_cases h : AK.ncode Ds As n AK.did = 0
  · obtain ⟨hm, a1, a2⟩ := ran_alike h
    exact ⟨mays_fit (a1.mays hm), mays_fit (a2.mays hm)⟩
  · have h' : AK.ncode Ds As n AK.rdid ≠ 0 := by rw [← (ran_norm Ds As n).1]; exact h
    rw [ran_no h, ran_no h']
    exact ⟨(fun _ h => nomatch h), (fun _ h => nomatch h)⟩

/-! Parts of acts. -/
theorem acode_part {Ds : List Dv} {As Bs : List AK.Ac} (h : AK.acode Ds As = 0) (hl : Bs.length ≤ As.length) (hs : ∀ A ∈ Bs, A ∈ As) {Es : List Dv} (ha : Alike Ds Es) : AK.acode Es Bs = 0 := by
  obtain ⟨hm, h1, hA⟩ := AK.acode_zero h
  have h2 : Bs.all (AK.okA Es) = true := List.all_eq_true.2 fun A hB => by rw [ha.okA]; exact hA A (hs A hB)
  simp [AK.acode, ha.mays hm, h2]
  omega
theorem ran_is {Ds : List Dv} {As : List AK.Ac} {m : Nat} (h : AK.acode Ds As = 0) (hm : m ≤ As.length) {Xs : List Dv} (hg : AK.go AK.did Ds (As.take m) = some Xs) : AK.ncode Ds As (m : Int) AK.did = 0 ∧ AK.ran Ds As (m : Int) AK.did = Xs := by
  have hc : AK.ncode Ds As (m : Int) AK.did = 0 := by rw [ncode_m h hm, hg]; rfl
  refine ⟨hc, ?_⟩
  unfold AK.ran
  rw [if_pos hc, Int.toNat_natCast, hg]
  rfl
theorem parts_math {Ds : List Dv} {As : List AK.Ac} {m : Nat} (hm : m ≤ As.length) (h : AK.ncode Ds As (As.length : Nat) AK.did = 0) :
    AK.mays Ds = true ∧ AK.ncode Ds (As.take m) (m : Int) AK.did = 0 ∧ AK.ncode Ds As (m : Int) AK.did = 0 ∧ AK.ran Ds As (m : Int) AK.did = AK.ran Ds (As.take m) (m : Int) AK.did ∧
    AK.ncode Ds As 0 AK.did = 0 ∧ AK.ran Ds As 0 AK.did = Ds ∧
    AK.ncode (AK.ran Ds (As.take m) (m : Int) AK.did) (As.drop m) ((As.length - m : Nat) : Int) AK.did = 0 ∧ AK.ran (AK.ran Ds (As.take m) (m : Int) AK.did) (As.drop m) ((As.length - m : Nat) : Int) AK.did = AK.ran Ds As (As.length : Nat) AK.did := by
  obtain ⟨h0, _, _, hg⟩ := ran_go h
  obtain ⟨hmy, _, hA⟩ := AK.acode_zero h0
  rw [Int.toNat_natCast, List.take_length] at hg
  have e : As = As.take m ++ As.drop m := (List.take_append_drop m As).symm
  rw [e, AK.go_append, ← e] at hg
  cases hx : AK.go AK.did Ds (As.take m) with
  | none => rw [hx] at hg; cases hg
  | some Xs =>
    rw [hx] at hg
    have hg : AK.go AK.did Xs (As.drop m) = some (AK.ran Ds As (As.length : Nat) AK.did) := hg
    obtain ⟨c1, r1⟩ := ran_is h0 hm hx
    have ht : (As.take m).length = m := by rw [List.length_take]; omega
    have a0 : AK.acode Ds (As.take m) = 0 := acode_part h0 (by omega) (fun A hA => List.mem_of_mem_take hA) (Alike.refl hmy)
    obtain ⟨c2, r2⟩ := ran_is a0 (Nat.le_of_eq ht.symm) (Xs := Xs) (by rw [List.take_take, Nat.min_self]; exact hx)
    obtain ⟨c3, r3⟩ := ran_is h0 (Nat.zero_le _) (Xs := Ds) (by rw [List.take_zero]; rfl)
    have al : Alike Ds Xs := by rw [← r1]; exact (ran_alike c1).2.1
    have hd : (As.drop m).length = As.length - m := List.length_drop
    have a1 : AK.acode Xs (As.drop m) = 0 := acode_part h0 (by omega) (fun A hA => List.mem_of_mem_drop hA) al
    obtain ⟨c4, r4⟩ := ran_is a1 (Nat.le_of_eq hd.symm) (Xs := AK.ran Ds As (As.length : Nat) AK.did) (by rw [← hd, List.take_length]; exact hg)
    rw [r2]
    exact ⟨hmy, c2, c1, r1, c3, r3, c4, r4⟩

/-! What a crash leaves. -/
theorem may_lay {D : Dv} (h : DK.may D = true) {ps : List (Int × List Nat)} (hp : ∀ p ∈ ps, DK.sized p.2 = true) (hd : D.dead = true → ps = []) : DK.may ⟨DK.lay D.bs ps, [], D.dead⟩ = true := by
  obtain ⟨m1, m2, m3, m4, m5, m6⟩ := DK.may_iff.1 h
  refine DK.may_iff.2 ⟨?_, ?_, Nat.zero_le _, fun _ => rfl, fun l hl => ?_, fun p hp => nomatch hp⟩
  · show 1 ≤ (DK.lay D.bs ps).length
    rw [lay_length]; exact m1
  · show (DK.lay D.bs ps).length ≤ 256
    rw [lay_length]; exact m2
  · have hl : l ∈ DK.lay D.bs ps := hl
    cases hx : D.dead with
    | true =>
      rw [hd hx] at hl
      have := m5 l hl
      unfold DK.okB at this ⊢
      rw [hx] at this
      exact this
    | false =>
      rcases lay_mem ps D.bs l hl with h1 | ⟨p, h1, rfl⟩
      · exact okB_of (okB_sized (m5 l h1)) rfl
      · exact okB_of (hp p h1) rfl
theorem kept_sub {ws : List (Int × List Nat)} {ks : List Bool} {p : Int × List Nat} (h : p ∈ AK.kept ws ks) : p ∈ ws := by
  unfold AK.kept at h
  obtain ⟨q, hq, rfl⟩ := List.mem_map.1 h
  exact (List.of_mem_zip (List.mem_filter.1 hq).1).1
theorem kept_nil (ks : List Bool) : AK.kept [] ks = [] := by simp [AK.kept]
theorem may_sized {D : Dv} (h : DK.may D = true) {p : Int × List Nat} (hp : p ∈ D.ws) : DK.sized p.2 = true := (okW_iff.1 ((DK.may_iff.1 h).2.2.2.2.2 p hp)).2
theorem may_nows {D : Dv} (h : DK.may D = true) (hd : D.dead = true) : D.ws = [] := List.eq_nil_of_length_eq_zero ((DK.may_iff.1 h).2.2.2.1 hd)
theorem may_cut {D : Dv} (h : DK.may D = true) (ks : List Bool) : DK.may (AK.cut D ks) = true :=
  may_lay h (fun p hp => may_sized h (kept_sub hp)) (fun hd => by rw [may_nows h hd, kept_nil])
theorem may_rcut {D : Dv} (h : DK.may D = true) (ks : List Bool) : DK.may (AK.rcut D ks) = true :=
  may_lay h (fun p hp => by
    obtain ⟨q, hq, rfl⟩ := List.mem_map.1 hp
    exact DK.fl_sized (may_sized h (kept_sub hq))) (fun hd => by rw [may_nows h hd, kept_nil]; rfl)
theorem cuts_may {f : Dv → List Bool → Dv} {Ds : List Dv} {ks : List Bool} (hf : ∀ D ∈ Ds, ∀ ks, DK.may (f D ks) = true) : ∀ D ∈ AK.cuts f Ds ks, DK.may D = true := by
  induction Ds generalizing ks with
  | nil => exact fun _ h => nomatch h
  | cons D r ih =>
    intro E hE
    rcases List.mem_cons.1 hE with rfl | hE
    · exact hf D (List.mem_cons_self ..) _
    · exact ih (fun D hD => hf D (List.mem_cons_of_mem _ hD)) E hE
theorem cuts_mays {Ds : List Dv} {ks : List Bool} (h : AK.mays Ds = true) : AK.mays (AK.cuts AK.cut Ds ks) = true ∧ AK.mays (AK.cuts AK.rcut Ds ks) = true := by
  obtain ⟨h1, h2, h3⟩ := AK.mays_iff.1 h
  exact ⟨AK.mays_iff.2 ⟨by rw [cuts_length]; exact h1, by rw [cuts_length]; exact h2, cuts_may fun D hD ks => may_cut (h3 D hD) ks⟩,
    AK.mays_iff.2 ⟨by rw [cuts_length]; exact h1, by rw [cuts_length]; exact h2, cuts_may fun D hD ks => may_rcut (h3 D hD) ks⟩⟩
theorem ccode_zero {Ds : List Dv} {ks : List Bool} (h : AK.ccode Ds ks = 0) : AK.mays Ds = true ∧ ks.length ≤ AK.many Ds := by
  unfold AK.ccode at h
  split at h
  · cases h
  · next h1 =>
    split at h
    · cases h
    · exact ⟨by simpa using h1, by omega⟩
theorem crashed_fit (Ds : List Dv) (ks : List Bool) : (∀ D ∈ AK.crashed Ds ks AK.cut, Fit D) ∧ ∀ D ∈ AK.crashed Ds ks AK.rcut, Fit D := by
  by_cases h : AK.ccode Ds ks = 0
  · obtain ⟨c1, c2⟩ := cuts_mays (ks := ks) (ccode_zero h).1
    simp only [AK.crashed, h, if_pos]
    exact ⟨mays_fit c1, mays_fit c2⟩
  · rw [crashed_no h, crashed_no h]
    exact ⟨(fun _ h => nomatch h), (fun _ h => nomatch h)⟩
theorem crashed_is {Ds : List Dv} {ks : List Bool} {f : Dv → List Bool → Dv} (h : AK.ccode Ds ks = 0) : AK.crashed Ds ks f = AK.cuts f Ds ks := by simp [AK.crashed, h]
/-- Where a crash's devices are parts of the ones before. -/
theorem cuts_get (f : Dv → List Bool → Dv) {Ds : List Dv} (ks : List Bool) {k : Nat} (hk : k < Ds.length) : ∃ js, (AK.cuts f Ds ks).getD k Dv.nil = f (Ds.getD k Dv.nil) js := by
  induction Ds generalizing ks k with
  | nil => simp at hk
  | cons D r ih =>
    cases k with
    | zero => exact ⟨_, rfl⟩
    | succ k => exact ih (ks.drop D.ws.length) (by simpa using hk)
theorem many_cuts (f : Dv → List Bool → Dv) (hf : ∀ D ks, (f D ks).ws = []) (Ds : List Dv) (ks : List Bool) : AK.many (AK.cuts f Ds ks) = 0 := by
  induction Ds generalizing ks with
  | nil => rfl
  | cons D r ih =>
    show (f D _).ws.length + AK.many (AK.cuts f r _) = 0
    rw [ih, hf]; rfl
theorem cut_idle {D : Dv} (h : D.ws = []) (ks : List Bool) : AK.cut D ks = D := by
  obtain ⟨bs, ws, dd⟩ := D
  obtain rfl : ws = [] := h
  show (⟨DK.lay bs (AK.kept [] ks), [], dd⟩ : Dv) = ⟨bs, [], dd⟩
  rw [kept_nil]; rfl
theorem cuts_idle {Ds : List Dv} (h : ∀ D ∈ Ds, D.ws = []) (ks : List Bool) : AK.cuts AK.cut Ds ks = Ds := by
  induction Ds generalizing ks with
  | nil => rfl
  | cons D r ih =>
    show AK.cut D _ :: AK.cuts AK.cut r _ = D :: r
    rw [cut_idle (h D (List.mem_cons_self ..)), ih (fun D hD => h D (List.mem_cons_of_mem _ hD))]
theorem cuts_ws {f : Dv → List Bool → Dv} (hf : ∀ D ks, (f D ks).ws = []) (Ds : List Dv) (ks : List Bool) : ∀ D ∈ AK.cuts f Ds ks, D.ws = [] := by
  induction Ds generalizing ks with
  | nil => exact fun _ h => nomatch h
  | cons D r ih =>
    intro E hE
    rcases List.mem_cons.1 hE with rfl | hE
    · exact hf D _
    · exact ih _ E hE
theorem again_math {Ds : List Dv} {ks : List Bool} (h : AK.ccode Ds ks = 0) :
    AK.mays (AK.crashed Ds ks AK.cut) = true ∧ wcount (AK.crashed Ds ks AK.cut) = 0 ∧ AK.dcode (AK.crashed Ds ks AK.cut) = 0 ∧ AK.ccode (AK.crashed Ds ks AK.cut) [] = 0 ∧
    AK.crashed (AK.crashed Ds ks AK.cut) [] AK.cut = AK.crashed Ds ks AK.cut ∧ (AK.crashed Ds ks AK.cut).length = Ds.length := by
  rw [crashed_is h]
  have hm := (cuts_mays (ks := ks) (ccode_zero h).1).1
  have h0 : AK.many (AK.cuts AK.cut Ds ks) = 0 := many_cuts _ (fun _ _ => rfl) _ _
  have hc : AK.ccode (AK.cuts AK.cut Ds ks) [] = 0 := ccode_ok hm (by simp)
  exact ⟨hm, by simp [wcount, hm, h0], dcode_yes hm, hc, by rw [crashed_is hc]; exact cuts_idle (cuts_ws (fun _ _ => rfl) _ _) _, cuts_length _ _ _⟩

/-! What lasts behind a crash. -/
theorem look_any (o : Int) (ws : List (Int × List Nat)) : ∀ i, DK.look o i ws = i ∨ ∃ p ∈ ws, p.1 = o ∧ DK.look o i ws = DK.fl p.2 := by
  induction ws with
  | nil => intro i; exact .inl rfl
  | cons p r ih =>
    intro i
    show DK.look o (if p.1 = o then DK.fl p.2 else i) r = i ∨ ∃ q ∈ p :: r, q.1 = o ∧ DK.look o (if p.1 = o then DK.fl p.2 else i) r = DK.fl q.2
    rcases ih (if p.1 = o then DK.fl p.2 else i) with h | ⟨q, h1, h2, h3⟩
    · by_cases hp : p.1 = o
      · rw [if_pos hp] at h ⊢
        exact .inr ⟨p, List.mem_cons_self .., hp, h⟩
      · rw [if_neg hp] at h ⊢
        exact .inl h
    · exact .inr ⟨q, List.mem_cons_of_mem _ h1, h2, h3⟩
theorem lies_lay {D : Dv} (h : DK.may D = true) {ps : List (Int × List Nat)} (hp : ∀ p ∈ ps, p ∈ D.ws) {o : Int} (ho : 0 ≤ o) : DK.lies ⟨DK.lay D.bs ps, [], D.dead⟩ o = DK.look o (DK.lies D o) ps :=
  look_lay o ho ps D.bs fun p hq => by
    have := (okW_iff.1 ((DK.may_iff.1 h).2.2.2.2.2 p (hp p hq))).1
    rw [DK.has_iff] at this
    exact this
theorem cut_kept {D : Dv} (h : DK.may D = true) (ks : List Bool) {o : Int} (ho : 0 ≤ o) : DK.lies (AK.cut D ks) o = DK.lies D o ∨ ∃ p ∈ D.ws, p.1 = o ∧ DK.lies (AK.cut D ks) o = DK.fl p.2 := by
  have e : DK.lies (AK.cut D ks) o = DK.look o (DK.lies D o) (AK.kept D.ws ks) := lies_lay h (fun p hp => kept_sub hp) ho
  rw [e]
  rcases look_any o (AK.kept D.ws ks) (DK.lies D o) with h1 | ⟨p, h1, h2, h3⟩
  · exact .inl h1
  · exact .inr ⟨p, kept_sub h1, h2, h3⟩
theorem kept_true (ws : List (Int × List Nat)) (m : Nat) (hm : ws.length ≤ m) : AK.kept ws (List.replicate m true) = ws := by
  induction ws generalizing m with
  | nil => exact kept_nil _
  | cons p r ih =>
    cases m with
    | zero => simp at hm
    | succ m =>
      have : AK.kept (p :: r) (List.replicate (m + 1) true) = p :: AK.kept r (List.replicate m true) := by
        unfold AK.kept; simp [List.replicate_succ]
      rw [this, ih m (by simpa using hm)]
theorem kept_none (ws : List (Int × List Nat)) : AK.kept ws [] = [] := by simp [AK.kept]
theorem cuts_all {Ds : List Dv} {m : Nat} (hm : AK.many Ds ≤ m) : AK.cuts AK.cut Ds (List.replicate m true) = Ds.map DK.flushed := by
  induction Ds generalizing m with
  | nil => rfl
  | cons D r ih =>
    have hD : D.ws.length + AK.many r ≤ m := hm
    show AK.cut D ((List.replicate m true).take D.ws.length) :: AK.cuts AK.cut r ((List.replicate m true).drop D.ws.length) = DK.flushed D :: r.map DK.flushed
    rw [List.take_replicate, List.drop_replicate, ih (by omega)]
    have : AK.cut D (List.replicate (min D.ws.length m) true) = DK.flushed D := by
      unfold AK.cut DK.flushed
      rw [kept_true _ _ (by omega)]
    rw [this]
theorem cuts_nothing (Ds : List Dv) : AK.cuts AK.cut Ds [] = Ds.map fun D => (⟨D.bs, [], D.dead⟩ : Dv) := by
  induction Ds with
  | nil => rfl
  | cons D r ih =>
    show AK.cut D (([] : List Bool).take D.ws.length) :: AK.cuts AK.cut r (([] : List Bool).drop D.ws.length) = (⟨D.bs, [], D.dead⟩ : Dv) :: _
    rw [List.take_nil, List.drop_nil, ih]
    have : AK.cut D [] = (⟨D.bs, [], D.dead⟩ : Dv) := by
      unfold AK.cut
      rw [kept_none]; rfl
    rw [this]
/-- Codes of a look at what lasts depend on little. -/
theorem rcode_alike {D E : Dv} (h1 : DK.may D = true) (h2 : DK.may E = true) (hb : E.bs.length = D.bs.length) (hd : E.dead = D.dead) (o : Int) : DK.rcode E o = DK.rcode D o := by
  unfold DK.rcode
  rw [h1, h2, has_len hb, hd]
theorem rcode_nat {D : Dv} {o : Int} (h : DK.rcode D o = 0) : 0 ≤ o := by
  have := (rcode_has h).2.1
  rw [DK.has_iff] at this
  exact this.1
/-- All marks true: what lasts is what was read; none: what lasted. -/
theorem all_math {D : Dv} (h : DK.may D = true) (o : Int) : DK.rcode (DK.flushed D) o = DK.rcode D o ∧ ltext (DK.flushed D) o = rtext D o := by
  have hm : DK.may (DK.flushed D) = true := may_lay h (fun p hp => may_sized h hp) (fun hd => may_nows h hd)
  have hc : DK.rcode (DK.flushed D) o = DK.rcode D o := rcode_alike h hm (lay_length _ _) rfl o
  refine ⟨hc, ?_⟩
  unfold ltext rtext
  rw [hc]
  split
  · next h0 => exact lies_flushed h (rcode_nat h0)
  · rfl
theorem nothing_math {D : Dv} (h : DK.may D = true) (o : Int) : DK.rcode ⟨D.bs, [], D.dead⟩ o = DK.rcode D o ∧ ltext ⟨D.bs, [], D.dead⟩ o = ltext D o := by
  have hm : DK.may ⟨D.bs, [], D.dead⟩ = true := may_lay (ps := []) h (fun _ h => nomatch h) (fun _ => rfl)
  have hc : DK.rcode ⟨D.bs, [], D.dead⟩ o = DK.rcode D o := rcode_alike h hm rfl rfl o
  refine ⟨hc, ?_⟩
  unfold ltext
  rw [hc]
  rfl
theorem map_at {α β : Type} {L : List α} {f : α → β} {k : Nat} {d : α} {e : β} (h : k < L.length) : (L.map f).getD k e = f (L.getD k d) := by simp [List.getD, h]
end Go.Proofs.Ytnhfkfihlkbkfaa.PW
