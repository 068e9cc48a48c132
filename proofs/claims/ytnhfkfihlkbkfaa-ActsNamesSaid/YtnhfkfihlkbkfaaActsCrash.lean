/-
  Contract of layer 5's Crash.
-/
import Derived.Test.YtnhfkfihlkbkfaaActsCrashed
import Derived.Test.YtnhfkfihlkbkfaaActsRun
import Derived.Test.YtnhfkfihlkbkfaaActsWaits
namespace Go.Proofs.Ytnhfkfihlkbkfaa.PW
open Go.RowKit
open DK (Dv)
set_option linter.unusedVariables false
set_option linter.unusedSimpArgs false
set_option maxRecDepth 100000

theorem cuts_snoc (f : Dv → List Bool → Dv) (Ds : List Dv) (D : Dv) (ks : List Bool) : AK.cuts f (Ds ++ [D]) ks = AK.cuts f Ds ks ++ [f D ((ks.drop (AK.many Ds)).take D.ws.length)] := by
  induction Ds generalizing ks with
  | nil => show [f D (ks.take _)] = [f D ((ks.drop 0).take _)]; rw [List.drop_zero]
  | cons E r ih =>
    show f E _ :: AK.cuts f (r ++ [D]) (ks.drop E.ws.length) = f E _ :: (AK.cuts f r (ks.drop E.ws.length) ++ _)
    rw [ih, List.drop_drop]
    have : AK.many (E :: r) = E.ws.length + AK.many r := by simp [AK.many]
    rw [this]
theorem cuts_length (f : Dv → List Bool → Dv) (Ds : List Dv) (ks : List Bool) : (AK.cuts f Ds ks).length = Ds.length := by
  induction Ds generalizing ks with
  | nil => rfl
  | cons E r ih => show (f E _ :: AK.cuts f r _).length = _; rw [List.length_cons, ih, List.length_cons]
theorem Touch.stays {lo hi lo' hi' : Nat} {w w' : World} (h : Touch lo hi w w') (hs : hi' ≤ w.heap.size) (hd : hi' ≤ lo ∨ hi ≤ lo') : Stays lo' hi' w w' := fun g h1 h2 => h.block g (by omega) (by omega)
theorem Made.touch {g : Nat} {w w' : World} {M : List Dn} {c : Nat → Nat} (h : Made g w M c) {k : Nat} (hk : k < M.length) (ht : Touch (c k) (c (k + 1)) w w') {y : Dn} (hy : OwnI (c k) (c (k + 1)) w' y) : Made g w' (M.set k y) c := by
  refine ⟨h.lo, fun i hi => h.up i (by rw [List.length_set] at hi; exact hi), by rw [List.length_set]; exact Nat.le_trans h.top ht.size, fun i hi => ?_⟩
  rw [List.length_set] at hi
  by_cases e : k = i
  · subst e
    have : (M.set k y).getD k Dn.nil = y := by simp [List.getD, hk]
    rw [this]; exact hy
  · have : (M.set k y).getD i Dn.nil = M.getD i Dn.nil := by simp [List.getD, List.getElem?_set_ne e]
    rw [this]
    refine (h.each i hi).keep (ht.stays (Nat.le_trans (h.mono (show i + 1 ≤ M.length from hi) (Nat.le_refl _)) h.top) ?_) ht.size
    rcases Nat.lt_or_ge i k with h1 | h1
    · exact .inl (h.mono (show i + 1 ≤ k from h1) (by omega))
    · exact .inr (h.mono (show k + 1 ≤ i by omega) (by omega))
theorem Touch.trans {lo hi : Nat} {w w1 w2 : World} (h : Touch lo hi w w1) (k : Touch lo hi w1 w2) : Touch lo hi w w2 :=
  ⟨k.os.trans h.os, k.tape.trans h.tape, k.output.trans h.output, Nat.le_trans h.size k.size, fun i hi' hne => (k.block i (Nat.lt_of_lt_of_le hi' h.size) hne).trans (h.block i hi' hne)⟩

theorem Rg.dropB {lo hi len cap : Nat} {w : World} {x : Addr} {L : List Bool} (h : Rg kBool lo hi w (some x) len cap L) {n : Nat} (hn : n ≤ len) : Rg kBool lo hi w (some (x.add n)) (len - n) (cap - n) (L.drop n) := by
  by_cases e : n = len
  · subst e
    rw [List.drop_of_length_le (by rw [← h.long]; exact Nat.le_refl _), Nat.sub_self]
    exact Rg.none' (Nat.le_trans (Nat.sub_le _ _) h.small) (fun h => by cases h)
  · obtain ⟨b, off, ea, _, _⟩ := h.addr (by rw [← h.long]; omega)
    obtain rfl := Option.some.inj ea
    have := h.drop n hn
    have e1 : (⟨b, off, none⟩ : Addr).add n = ⟨b, off + n, none⟩ := by unfold Addr.add; split <;> simp_all
    rw [e1]
    rw [show n * kBool.m = n from Nat.mul_one n] at this
    exact this

/-- What holds at the head of Crash's loop. -/
def CrashRel (w : World) (g n : Nat) (Ds : List Dv) (ks : List Bool) (c : Nat → Nat) (kv i : Value) (wr : World) : Prop :=
  ∃ (k : Nat) (N : List Dn) (ma : Option Addr) (ml mc : Nat), k ≤ n ∧ N.length = n ∧ i = .int .i64 (k : Nat) ∧ kv = .slice ma ml mc ∧ Rg kBool 0 w.heap.size w ma ml mc (ks.drop (AK.many (Ds.take k))) ∧
    devs N = AK.cuts AK.cut (Ds.take k) ks ++ Ds.drop k ∧ Bx wr g (kDn.row N) ∧ Made g wr N c ∧ Below w.heap.size w wr
theorem ccode_bad {Ds : List Dv} {ks : List Bool} (h : AK.mays Ds = false) : AK.ccode Ds ks = 8 := by simp [AK.ccode, h]
theorem ccode_many {Ds : List Dv} {ks : List Bool} (h : AK.mays Ds = true) (h2 : AK.many Ds < ks.length) : AK.ccode Ds ks = 2 := by simp [AK.ccode, h, h2]
theorem ccode_ok {Ds : List Dv} {ks : List Bool} (h : AK.mays Ds = true) (h2 : ¬ AK.many Ds < ks.length) : AK.ccode Ds ks = 0 := by simp [AK.ccode, h, h2]
theorem crashed_no {Ds : List Dv} {ks : List Bool} {f : Dv → List Bool → Dv} (h : AK.ccode Ds ks ≠ 0) : AK.crashed Ds ks f = [] := by simp [AK.crashed, h]
/-- What the head's list tells of device k, and what it becomes. -/
theorem crash_at {N : List Dn} {Ds : List Dv} {ks : List Bool} {k : Nat} (hk : k < Ds.length) (h : devs N = AK.cuts AK.cut (Ds.take k) ks ++ Ds.drop k) : (N.getD k Dn.nil).D = Ds.getD k Dv.nil := by
  rw [← devs_getD, h]
  have hl : (AK.cuts AK.cut (Ds.take k) ks).length = k := by rw [cuts_length, List.length_take]; omega
  simp only [List.getD]
  rw [List.getElem?_append_right (by omega), hl, Nat.sub_self, List.getElem?_drop, Nat.add_zero]
theorem crash_next {N : List Dn} {Ds : List Dv} {ks : List Bool} {k : Nat} (hk : k < Ds.length) (h : devs N = AK.cuts AK.cut (Ds.take k) ks ++ Ds.drop k) {y : Dn} (hy : y.D = AK.cut (Ds.getD k Dv.nil) ((ks.drop (AK.many (Ds.take k))).take (Ds.getD k Dv.nil).ws.length)) :
    devs (N.set k y) = AK.cuts AK.cut (Ds.take (k + 1)) ks ++ Ds.drop (k + 1) := by
  have hl : (AK.cuts AK.cut (Ds.take k) ks).length = k := by rw [cuts_length, List.length_take]; omega
  have e1 : Ds.take (k + 1) = Ds.take k ++ [Ds.getD k Dv.nil] := by rw [List.take_succ_eq_append_getElem hk]; simp [List.getD, hk]
  have e2 : Ds.drop k = Ds.getD k Dv.nil :: Ds.drop (k + 1) := by rw [List.drop_eq_getElem_cons hk]; simp [List.getD, hk]
  rw [devs_set, h, e1, cuts_snoc, ← hy, e2, List.set_append_right _ _ (by omega), hl, Nat.sub_self]
  simp

set_option maxHeartbeats 4000000 in
theorem crash_any (b : Option Addr) (dn dc : Nat) (L : List Dn) (ka : Option Addr) (kl kc : Nat) (ks : List Bool) (w : World) (hr : Rg kDn 0 w.heap.size w b dn dc L) (hk : Rg kBool 0 w.heap.size w ka kl kc ks) :
    Calls Try.prog 13 #[.slice b dn dc, .slice ka kl kc] w (DsEnd w (AK.crashed (devs L) ks AK.cut) (AK.ccode (devs L) ks)) := by
  have CK := Lib.hid (waits_any b dn dc L w hr)
  have Hlen := Lib.hid hk.long
  have hs := hk.small'
  have Hk := Lib.hid hk
  have Hr := Lib.hid hr
  clear hk hr
  rcases Bool.eq_false_or_eq_true (AK.mays (devs L)) with hm | hm
  rotate_left
  · have HC := Lib.hid (ccode_bad (ks := ks) hm)
    have HR := Lib.hid (crashed_no (f := AK.cut) (by rw [HC.out]; omega))
    rw [dcode_no hm, show wcount (devs L) = 0 by simp [wcount, hm]] at CK
    rw [HC.out, HR.out]
    clear hm
    go_enter Try.func13, Try.ntmps13
    go_wp2_with fail
    refine CK.out.mono ?_
    rintro e w1 ⟨rfl, b1⟩
    go_wp2_with fail
    go_ret2
    exact ⟨_, rfl, NewDs.nil _ _, b1⟩
  rw [dcode_yes hm, show wcount (devs L) = AK.many (devs L) by simp [wcount, hm]] at CK
  by_cases h2 : AK.many (devs L) < kl
  · have HC := Lib.hid (ccode_many (ks := ks) hm (by rw [← Hlen.out]; exact h2))
    have HR := Lib.hid (crashed_no (f := AK.cut) (by rw [HC.out]; omega))
    rw [HC.out, HR.out]
    have i2 : (AK.many (devs L) : Int) < (kl : Int) := by omega
    clear hm h2
    generalize AK.many (devs L) = q at *
    go_enter Try.func13, Try.ntmps13
    go_wp2_with fail
    refine CK.out.mono ?_
    rintro e w1 ⟨rfl, b1⟩
    go_wp2_with fail
    go_ret2
    exact ⟨_, rfl, NewDs.nil _ _, b1⟩
  · have HC := Lib.hid (ccode_ok (ks := ks) hm (by rw [← Hlen.out]; exact h2))
    have HR : Hid (AK.crashed (devs L) ks AK.cut = AK.cuts AK.cut (devs L) ks) := by show _ = _; simp [AK.crashed, HC.out]
    rw [HC.out, HR.out]
    have i2 : ¬ (AK.many (devs L) : Int) < (kl : Int) := by omega
    have h17 : L.length ≤ 17 := by have := (AK.mays_iff.1 hm).2.1; rw [devs_length] at this; exact this
    have CT : Hid (∀ w1, Below w.heap.size w w1 → Calls Try.prog 44 #[.slice b dn dc] w1 (TwinsEnd w1 (devs L))) := fun w1 h =>
      twins_any b dn dc L w1 (Hr.out.here h) (fun D hD => fit_may ((AK.mays_iff.1 hm).2.2 D hD)) (by have := Hr.out.long; omega)
    have HMY : Hid (∀ i, i < (devs L).length → DK.may ((devs L).getD i Dv.nil) = true) := fun i hi => (AK.mays_iff.1 hm).2.2 _ (AK.mem_get hi)
    clear hm h2
    generalize AK.many (devs L) = q at *
    go_enter Try.func13, Try.ntmps13
    go_wp2_with fail
    refine CK.out.mono ?_
    rintro e w1 ⟨rfl, b1⟩
    have B1 := Lib.hid b1
    clear b1
    go_wp2_with fail
    refine (CT.out _ B1.out).mono ?_
    rintro e w2 ⟨M0, c, rfl, hM0, bx0, mk0, b2⟩
    have B2 := Lib.hid (thence B1.out b2 (Nat.le_refl _))
    have HM0 := Lib.hid hM0
    have BX0 := Lib.hid bx0
    have MK0 := Lib.hid mk0
    have hl0 : M0.length = (devs L).length := by rw [← hM0, devs_length]
    have hM17 : M0.length ≤ 17 := by rw [hl0, devs_length]; exact h17
    have HL0 := Lib.hid hl0
    have hg1 : w.heap.size ≤ w1.heap.size := B1.out.size
    clear hM0 bx0 mk0 b2 hl0
    go_wp2_with fail
    go_loopw [1, 28] (fun kv i wr => CrashRel w w1.heap.size M0.length (devs L) ks c kv i wr) (fun _ i _ => M0.length - (intOf i).toNat)
    case atStart => exact ⟨0, M0, ka, kl, kc, Nat.zero_le _, rfl, rfl, rfl, by simpa [AK.many] using Hk.out, by rw [HM0.out]; rfl, BX0.out, MK0.out, B2.out⟩
    case round =>
      obtain ⟨k, N, ma, ml, mc, hk, hN, rfl, rfl, hrg, hdv, hbx, hmd, hbw⟩ := hrel
      have WB := Lib.hid hbw
      have RG := Lib.hid hrg
      have DV := Lib.hid hdv
      have BX := Lib.hid hbx
      have MD := Lib.hid hmd
      have HN := Lib.hid hN
      have hms := hrg.small'
      have hmc := hrg.small
      have hmf := hrg.fits
      have hmlg := hrg.long
      unfold maxLen at hmc
      have hmlc : ml ≤ mc := by omega
      clear hbw hrg hdv hbx hmd hN hmf
      by_cases hlt : k < M0.length
      · have hkN : k < N.length := by rw [HN.out]; exact hlt
        have hkD : k < (devs L).length := by rw [← HL0.out]; exact hlt
        have hDk := crash_at hkD DV.out
        obtain ⟨x, hx⟩ : ∃ x, N.getD k Dn.nil = x := ⟨_, rfl⟩
        rw [hx] at hDk
        have OX : Hid (OwnI (c k) (c (k + 1)) wr x) := by have := MD.out.each k hkN; rw [hx] at this; exact this
        obtain ⟨k0, k1, k2⟩ := BX.out.dcell hkN hx
        have hmay : DK.may x.D = true := by rw [hDk]; exact HMY.out k hkD
        have hck : c (k + 1) ≤ wr.heap.size := Nat.le_trans (MD.out.mono (show k + 1 ≤ N.length from hkN) (Nat.le_refl _)) MD.out.top
        have hck0 : w1.heap.size + 1 ≤ c k := Nat.le_trans MD.out.lo (MD.out.mono (Nat.zero_le k) (by omega))
        have hckk : c k ≤ c (k + 1) := MD.out.up k hkN
        have hn' : x.n' = x.D.ws.length := OX.out.at.long.2
        have hws : x.n' ≤ 1024 := by rw [hn']; exact (DK.may_iff.1 hmay).2.2.1
        obtain ⟨m, hm⟩ : ∃ m, m = min x.n' ml := ⟨_, rfl⟩
        have hm1 : m ≤ x.n' := by omega
        have hm2 : m ≤ ml := by omega
        have HMIN : Hid ((if (x.n' : Int) ≤ (ml : Int) then (x.n' : Int) else (ml : Int)) = (m : Int)) := by show _ = _; split <;> omega
        have htake : ((ks.drop (AK.many ((devs L).take k))).take m) = (ks.drop (AK.many ((devs L).take k))).take ((devs L).getD k Dv.nil).ws.length := by
          rw [← hDk, ← hn', hm]
          rcases Nat.le_total x.n' ml with h | h
          · rw [Nat.min_eq_left h]
          · rw [Nat.min_eq_right h, List.take_of_length_le (Nat.le_of_eq hmlg.symm), List.take_of_length_le (Nat.le_trans (Nat.le_of_eq hmlg.symm) h)]
        have RGT : Hid (Rg kBool 0 w.heap.size w ma m m (((ks.drop (AK.many ((devs L).take k))).take m))) := (RG.out.take m hm2).cut (Nat.le_refl _) (by omega)
        have CC : Hid (∀ w3, Below wr.heap.size wr w3 → Calls Try.prog 46 #[x.val, .slice ma m m] w3 fun e w' => e = .returned (.agg #[.slice x.a x.n x.c, .slice none 0 0, .bool x.D.dead]) ∧ OwnI (c k) (c (k + 1)) w' ⟨x.a, x.n, x.c, none, 0, 0, AK.cut x.D ((ks.drop (AK.many ((devs L).take k))).take m)⟩ ∧ Touch (c k) (c (k + 1)) w3 w') := fun w3 h =>
          crashed_any (c k) (c (k + 1)) x ma m m _ w3 (OX.out.keep (.ofBelow h hck) h.size) (Nat.le_trans hck h.size) (by have := h.size; omega) hmay (((RGT.out.below (thence WB.out h (Nat.le_refl _)) (Nat.le_refl _))).mono (Nat.le_refl _) (by omega)) (by
            rw [List.length_take, ← hn']; omega)
        have HNX : Hid (∀ y : Dn, y.D = AK.cut x.D ((ks.drop (AK.many ((devs L).take k))).take m) → devs (N.set k y) = AK.cuts AK.cut ((devs L).take (k + 1)) ks ++ (devs L).drop (k + 1)) := fun y hy =>
          crash_next hkD DV.out (by rw [hy, htake, hDk])
        have hmany : AK.many ((devs L).take (k + 1)) = AK.many ((devs L).take k) + x.n' := by rw [many_snoc hkD, ← hDk, hn']
        have HDR : Hid (∀ a2 c2, Rg kBool 0 w.heap.size w a2 (ml - m) c2 ((ks.drop (AK.many ((devs L).take k))).drop m) → Rg kBool 0 w.heap.size w a2 (ml - m) c2 (ks.drop (AK.many ((devs L).take (k + 1))))) := fun a2 c2 h => by
          have e : (ks.drop (AK.many ((devs L).take k))).drop m = ks.drop (AK.many ((devs L).take (k + 1))) := by
            rw [hmany, List.drop_drop, hm]
            rcases Nat.le_total x.n' ml with h | h
            · rw [Nat.min_eq_left h]
            · have hd : ks.length - AK.many ((devs L).take k) = ml := by rw [hmlg, List.length_drop]
              rw [Nat.min_eq_right h, List.drop_of_length_le (by omega), List.drop_of_length_le (by omega)]
          rw [← e]; exact h
        have HKN := Lib.hid hkN
        have Hx := Lib.hid hx
        have HCK := Lib.hid hck
        have HCK0 := Lib.hid hck0
        have i1 : (k : Int) < (M0.length : Int) := by omega
        have im0 : (m : Int) ≤ (mc : Int) := by omega
        have im1 : (m : Int) ≤ (ml : Int) := by omega
        obtain ⟨xa, xn, xc, xa', xn', xc', D⟩ := x
        have k0 : wr.cell? ⟨w1.heap.size, k * 3, none⟩ = some (.slice xa xn xc) := k0
        have k1 : wr.cell? ⟨w1.heap.size, k * 3 + 1, none⟩ = some (.slice xa' xn' xc') := k1
        have k2 : wr.cell? ⟨w1.heap.size, k * 3 + 2, none⟩ = some (.bool D.dead) := k2
        have HMIN' : Hid ((if (xn' : Int) ≤ (ml : Int) then (xn' : Int) else (ml : Int)) = (m : Int)) := HMIN.out
        have hws' : xn' ≤ 1024 := hws
        have hm1' : m ≤ xn' := hm1
        have CC' : Hid (∀ w3, Below wr.heap.size wr w3 → Calls Try.prog 46 #[.agg #[.slice xa xn xc, .slice xa' xn' xc', .bool D.dead], .slice ma m m] w3 fun e w' => e = .returned (.agg #[.slice xa xn xc, .slice none 0 0, .bool D.dead]) ∧ OwnI (c k) (c (k + 1)) w' ⟨xa, xn, xc, none, 0, 0, AK.cut D ((ks.drop (AK.many ((devs L).take k))).take m)⟩ ∧ Touch (c k) (c (k + 1)) w3 w') := CC.out
        have hmm : (m = xn' ∧ xn' ≤ ml) ∨ (m = ml ∧ ml < xn') := by
          rcases Nat.lt_or_ge ml xn' with h | h
          · exact .inr ⟨by rw [hm]; exact Nat.min_eq_right (Nat.le_of_lt h), h⟩
          · exact .inl ⟨by rw [hm]; exact Nat.min_eq_left h, h⟩
        clear hDk hmay hck hck0 hckk hn' hws hm hm1 HMIN HMIN' htake hmany hkN hkD hx CC hmlg hm1'
        have HDF : Hid ((AK.cut D ((ks.drop (AK.many ((devs L).take k))).take m)).dead = D.dead) := rfl
        generalize D.dead = dd at *
        generalize hcut : AK.cut D ((ks.drop (AK.many ((devs L).take k))).take m) = F at *
        clear hcut
        rcases hmm with ⟨hme, hle⟩ | ⟨hme, hle⟩
        · obtain rfl : m = xn' := hme
          have bxd := Bx.new wr [.slice xa xn xc, .slice xa' m xc', .bool dd] 37
          have ald : Below wr.heap.size wr (wr.alloc (.cells #[.slice xa xn xc, .slice xa' m xc', .bool dd] 37)) := (Below.refl _ _).alloc (Nat.le_refl _) _
          go_wp2_with fail
          generalize wr.alloc (.cells #[.slice xa xn xc, .slice xa' m xc', .bool dd] 37) = W1 at *
          have BXD := Lib.hid bxd
          have ALD := Lib.hid ald
          clear bxd ald
          refine wp_region_noPanic ?_
          refine PX.wp_region_y (fun w' => w'.cell? ⟨wr.heap.size, 0, none⟩ = some (.slice xa xn xc) ∧ w'.cell? ⟨wr.heap.size, 1, none⟩ = some (.slice xa' m xc') ∧ w'.cell? ⟨wr.heap.size, 2, none⟩ = some (.bool dd)) [9] (by kernel_rfl) BXD.out.drew.three (fun hHeld => ?_)
          refine PX.wpAnyY_take (i := 0) (oi := ?_) (v := ?_) ?_ (by kernel_rfl) (by kernel_rfl) (by kernel_rfl) (by kernel_rfl) (by kernel_rfl) (fun _ _ _ h => h) (Or.inl ⟨?_, ?_⟩) (by assumption) ?_
          rotate_left 2
          · simp only [List.getElem?_toArray, List.getElem?_cons_succ, List.getElem?_cons_zero]; rfl
          · rfl
          · intro w hSw; (try dsimp only at hSw); go_simp <;> with_reducible rfl
          (try simp only [Act.put, List.setIfInBounds_toArray, List.set_cons_zero, List.set_cons_succ])
          refine PX.wpAnyY_take (i := 1) (oi := ?_) (v := ?_) ?_ (by kernel_rfl) (by kernel_rfl) (by kernel_rfl) (by kernel_rfl) (by kernel_rfl) (fun _ _ _ h => h) (Or.inl ⟨?_, ?_⟩) (by assumption) ?_
          rotate_left 2
          · simp only [List.getElem?_toArray, List.getElem?_cons_succ, List.getElem?_cons_zero]; rfl
          · rfl
          · intro w hSw; (try dsimp only at hSw); go_simp <;> with_reducible rfl
          (try simp only [Act.put, List.setIfInBounds_toArray, List.set_cons_zero, List.set_cons_succ])
          refine PX.wpAnyY_take (i := 2) (oi := ?_) (v := ?_) ?_ (by kernel_rfl) (by kernel_rfl) (by kernel_rfl) (by kernel_rfl) (by kernel_rfl) (fun _ _ _ h => h) (Or.inl ⟨?_, ?_⟩) (by assumption) ?_
          rotate_left 2
          · simp only [List.getElem?_toArray, List.getElem?_cons_succ, List.getElem?_cons_zero]; rfl
          · rfl
          · intro w hSw; (try dsimp only at hSw); obtain ⟨p0, p1, p2⟩ := hSw; go_simp <;> with_reducible rfl
          (try simp only [Act.put, List.setIfInBounds_toArray, List.set_cons_zero, List.set_cons_succ])
          refine PX.wpAnyY_take (i := 3) (oi := ?_) (v := ?_) ?_ (by kernel_rfl) (by kernel_rfl) (by kernel_rfl) (by kernel_rfl) (by kernel_rfl) (fun _ _ _ h => h) (Or.inl ⟨?_, ?_⟩) (by assumption) ?_
          rotate_left 2
          · simp only [List.getElem?_toArray, List.getElem?_cons_succ, List.getElem?_cons_zero]; rfl
          · rfl
          · intro w hSw; (try dsimp only at hSw); go_simp <;> with_reducible rfl
          (try simp only [Act.put, List.setIfInBounds_toArray, List.set_cons_zero, List.set_cons_succ])
          refine PX.wpAnyY_take (i := 4) (oi := ?_) (v := ?_) ?_ (by kernel_rfl) (by kernel_rfl) (by kernel_rfl) (by kernel_rfl) (by kernel_rfl) (fun _ _ _ h => h) (Or.inl ⟨?_, ?_⟩) (by assumption) ?_
          rotate_left 2
          · simp only [List.getElem?_toArray, List.getElem?_cons_succ, List.getElem?_cons_zero]; rfl
          · rfl
          · intro w hSw; (try dsimp only at hSw); go_simp <;> with_reducible rfl
          (try simp only [Act.put, List.setIfInBounds_toArray, List.set_cons_zero, List.set_cons_succ])
          refine PX.wpAnyY_take (i := 5) (oi := ?_) (v := ?_) ?_ (by kernel_rfl) (by kernel_rfl) (by kernel_rfl) (by kernel_rfl) (by kernel_rfl) (fun _ _ _ h => h) (Or.inl ⟨?_, ?_⟩) (by assumption) ?_
          rotate_left 2
          · simp only [List.getElem?_toArray, List.getElem?_cons_succ, List.getElem?_cons_zero]; rfl
          · rfl
          · intro w hSw; (try dsimp only at hSw); go_simp <;> with_reducible rfl
          (try simp only [Act.put, List.setIfInBounds_toArray, List.set_cons_zero, List.set_cons_succ])
          refine PX.wpAnyY_take (i := 6) (oi := ?_) (v := ?_) ?_ (by kernel_rfl) (by kernel_rfl) (by kernel_rfl) (by kernel_rfl) (by kernel_rfl) (fun _ _ _ h => h) (Or.inl ⟨?_, ?_⟩) (by assumption) ?_
          rotate_left 2
          · simp only [List.getElem?_toArray, List.getElem?_cons_succ, List.getElem?_cons_zero]; rfl
          · rfl
          · intro w hSw; (try dsimp only at hSw); go_simp <;> with_reducible rfl
          (try simp only [Act.put, List.setIfInBounds_toArray, List.set_cons_zero, List.set_cons_succ])
          refine PX.wpAnyY_one (i := 7) (o := ?_) (by kernel_rfl) ?_ (fun Kq hKq => ?_)
          rotate_left
          · simp only [List.getElem?_toArray, List.getElem?_cons_succ, List.getElem?_cons_zero]; rfl
          go_simp
          refine (CC'.out _ (ALD.out.drew)).mono ?_
          rintro e w4 ⟨rfl, oi, tc⟩
          have BD4 : Hid (Bx w4 wr.heap.size [.slice xa xn xc, .slice xa' m xc', .bool dd]) := tc.bx BXD.out.drew (.inr HCK.out)
          have T4 : Hid (Touch (c k) (c (k + 1)) wr w4) := Touch.after ALD.out.drew tc HCK.out
          have OI4 := Lib.hid oi
          have BX4 : Hid (Bx w4 w1.heap.size (kDn.row N)) := T4.out.bx BX.out (.inl HCK0.out)
          have MD4 := Lib.hid (MD.out.touch HKN.out T4.out OI4.out)
          have WB4 : Hid (Below w.heap.size w w4) := T4.out.below WB.out (by have := HCK0.out; omega) (Nat.le_refl _)
          clear oi tc
          go_wp2_with fail
          refine hKq.out _ _ (BD4.out.three) (fun hHeld => ?_)
          clear hKq Kq
          (try simp only [Act.put, List.setIfInBounds_toArray, List.set_cons_zero, List.set_cons_succ])
          refine PX.wpAnyY_take (i := 8) (oi := ?_) (v := ?_) ?_ (by kernel_rfl) (by kernel_rfl) (by kernel_rfl) (by kernel_rfl) (by kernel_rfl) (fun _ _ _ h => h) (Or.inl ⟨?_, ?_⟩) (by assumption) ?_
          rotate_left 2
          · simp only [List.getElem?_toArray, List.getElem?_cons_succ, List.getElem?_cons_zero]; rfl
          · rfl
          · intro w hSw; (try dsimp only at hSw); go_simp <;> with_reducible rfl
          (try simp only [Act.put, List.setIfInBounds_toArray, List.set_cons_zero, List.set_cons_succ])
          refine PX.wpAnyY_free (i := 9) (o := ?_) (by kernel_rfl) (by kernel_rfl) ?_ (fun Kq hKq => ?_)
          rotate_left
          · simp only [List.getElem?_toArray, List.getElem?_cons_succ, List.getElem?_cons_zero]; rfl
          have h4 := BX4.out
          obtain ⟨q0, q1, q2⟩ := h4.dcell HKN.out Hx.out
          have f0 := h4.frozen (k * 3)
          have f1 := h4.frozen (k * 3 + 1)
          have f2 := h4.frozen (k * 3 + 2)
          go_simp
          refine hKq.out _ _ ?_
          clear hKq Kq
          (try simp only [Act.put, List.setIfInBounds_toArray, List.set_cons_zero, List.set_cons_succ])
          refine PX.wpAnyY_done (by kernel_rfl) ?_ _
          refine NoPanic.normal ?_
          have st := stays_put (g := w1.heap.size) (k := k) (w := w4) (.slice xa xn xc) (.slice none 0 0) (.bool dd)
          have mk5 := Lib.hid (MD4.out.keep st.1 (by rw [st.2]; exact Nat.le_refl _))
          have bx5 := Lib.hid (BX4.out.set3 rfl k HKN.out (⟨xa, xn, xc, none, 0, 0, F⟩ : Dn) (u := .slice xa xn xc) (v := .slice none 0 0) (z := .bool dd) (by show [Value.slice xa xn xc, .slice none 0 0, .bool F.dead] = _; rw [HDF.out]))
          have wb5 := Lib.hid (below_put (g := w1.heap.size) (k := k) WB4.out hg1 (.slice xa xn xc) (.slice none 0 0) (.bool dd))
          clear st q0 q1 q2 f0 f1 f2
          by_cases hcap : mc = m
          · have hsub : ml - m = 0 := by omega
            have rdr := HDR.out ma 0 (by
              rw [List.drop_of_length_le (by have := RG.out.long; omega), hsub]
              exact Rg.none' (by unfold maxLen; omega) (fun _ => rfl))
            rw [hsub] at rdr
            have RDR := Lib.hid rdr
            clear rdr hsub
            obtain rfl : m = mc := hcap.symm
            go_wp2_with fail
            go_roundw
            case rel => exact ⟨k + 1, N.set k ⟨xa, xn, xc, none, 0, 0, F⟩, ma, _, _, by omega, by rw [List.length_set, HN.out], by go_num, rfl, RDR.out, HNX.out ⟨xa, xn, xc, none, 0, 0, F⟩ rfl, bx5.out, mk5.out, wb5.out⟩
            case measure => simp [intOf]; omega
          · have hc2 : m < mc := by omega
            cases ma with
            | none => have h0 := (RG.out.nil rfl).2; omega
            | some x =>
              have RDR := Lib.hid (HDR.out _ _ (RG.out.dropB hm2))
              have hsub : ml - m = ml - m := rfl
              rw [hsub] at RDR
              clear hsub
              go_wp2_with fail
              go_roundw
              case rel => exact ⟨k + 1, N.set k ⟨xa, xn, xc, none, 0, 0, F⟩, _, _, _, by omega, by rw [List.length_set, HN.out], by go_num, rfl, RDR.out, HNX.out ⟨xa, xn, xc, none, 0, 0, F⟩ rfl, bx5.out, mk5.out, wb5.out⟩
              case measure => simp [intOf]; omega
        · obtain rfl : m = ml := hme
          have hle' : ¬ (xn' : Int) ≤ (m : Int) := by omega
          have bxd := Bx.new wr [.slice xa xn xc, .slice xa' xn' xc', .bool dd] 37
          have ald : Below wr.heap.size wr (wr.alloc (.cells #[.slice xa xn xc, .slice xa' xn' xc', .bool dd] 37)) := (Below.refl _ _).alloc (Nat.le_refl _) _
          go_wp2_with fail
          generalize wr.alloc (.cells #[.slice xa xn xc, .slice xa' xn' xc', .bool dd] 37) = W1 at *
          have BXD := Lib.hid bxd
          have ALD := Lib.hid ald
          clear bxd ald
          refine wp_region_noPanic ?_
          refine PX.wp_region_y (fun w' => w'.cell? ⟨wr.heap.size, 0, none⟩ = some (.slice xa xn xc) ∧ w'.cell? ⟨wr.heap.size, 1, none⟩ = some (.slice xa' xn' xc') ∧ w'.cell? ⟨wr.heap.size, 2, none⟩ = some (.bool dd)) [9] (by kernel_rfl) BXD.out.drew.three (fun hHeld => ?_)
          refine PX.wpAnyY_take (i := 0) (oi := ?_) (v := ?_) ?_ (by kernel_rfl) (by kernel_rfl) (by kernel_rfl) (by kernel_rfl) (by kernel_rfl) (fun _ _ _ h => h) (Or.inl ⟨?_, ?_⟩) (by assumption) ?_
          rotate_left 2
          · simp only [List.getElem?_toArray, List.getElem?_cons_succ, List.getElem?_cons_zero]; rfl
          · rfl
          · intro w hSw; (try dsimp only at hSw); go_simp <;> with_reducible rfl
          (try simp only [Act.put, List.setIfInBounds_toArray, List.set_cons_zero, List.set_cons_succ])
          refine PX.wpAnyY_take (i := 1) (oi := ?_) (v := ?_) ?_ (by kernel_rfl) (by kernel_rfl) (by kernel_rfl) (by kernel_rfl) (by kernel_rfl) (fun _ _ _ h => h) (Or.inl ⟨?_, ?_⟩) (by assumption) ?_
          rotate_left 2
          · simp only [List.getElem?_toArray, List.getElem?_cons_succ, List.getElem?_cons_zero]; rfl
          · rfl
          · intro w hSw; (try dsimp only at hSw); go_simp <;> with_reducible rfl
          (try simp only [Act.put, List.setIfInBounds_toArray, List.set_cons_zero, List.set_cons_succ])
          refine PX.wpAnyY_take (i := 2) (oi := ?_) (v := ?_) ?_ (by kernel_rfl) (by kernel_rfl) (by kernel_rfl) (by kernel_rfl) (by kernel_rfl) (fun _ _ _ h => h) (Or.inl ⟨?_, ?_⟩) (by assumption) ?_
          rotate_left 2
          · simp only [List.getElem?_toArray, List.getElem?_cons_succ, List.getElem?_cons_zero]; rfl
          · rfl
          · intro w hSw; (try dsimp only at hSw); obtain ⟨p0, p1, p2⟩ := hSw; go_simp <;> with_reducible rfl
          (try simp only [Act.put, List.setIfInBounds_toArray, List.set_cons_zero, List.set_cons_succ])
          refine PX.wpAnyY_take (i := 3) (oi := ?_) (v := ?_) ?_ (by kernel_rfl) (by kernel_rfl) (by kernel_rfl) (by kernel_rfl) (by kernel_rfl) (fun _ _ _ h => h) (Or.inl ⟨?_, ?_⟩) (by assumption) ?_
          rotate_left 2
          · simp only [List.getElem?_toArray, List.getElem?_cons_succ, List.getElem?_cons_zero]; rfl
          · rfl
          · intro w hSw; (try dsimp only at hSw); go_simp <;> with_reducible rfl
          (try simp only [Act.put, List.setIfInBounds_toArray, List.set_cons_zero, List.set_cons_succ])
          refine PX.wpAnyY_take (i := 4) (oi := ?_) (v := ?_) ?_ (by kernel_rfl) (by kernel_rfl) (by kernel_rfl) (by kernel_rfl) (by kernel_rfl) (fun _ _ _ h => h) (Or.inl ⟨?_, ?_⟩) (by assumption) ?_
          rotate_left 2
          · simp only [List.getElem?_toArray, List.getElem?_cons_succ, List.getElem?_cons_zero]; rfl
          · rfl
          · intro w hSw; (try dsimp only at hSw); go_simp <;> with_reducible rfl
          (try simp only [Act.put, List.setIfInBounds_toArray, List.set_cons_zero, List.set_cons_succ])
          refine PX.wpAnyY_take (i := 5) (oi := ?_) (v := ?_) ?_ (by kernel_rfl) (by kernel_rfl) (by kernel_rfl) (by kernel_rfl) (by kernel_rfl) (fun _ _ _ h => h) (Or.inl ⟨?_, ?_⟩) (by assumption) ?_
          rotate_left 2
          · simp only [List.getElem?_toArray, List.getElem?_cons_succ, List.getElem?_cons_zero]; rfl
          · rfl
          · intro w hSw; (try dsimp only at hSw); go_simp <;> with_reducible rfl
          (try simp only [Act.put, List.setIfInBounds_toArray, List.set_cons_zero, List.set_cons_succ])
          refine PX.wpAnyY_take (i := 6) (oi := ?_) (v := ?_) ?_ (by kernel_rfl) (by kernel_rfl) (by kernel_rfl) (by kernel_rfl) (by kernel_rfl) (fun _ _ _ h => h) (Or.inl ⟨?_, ?_⟩) (by assumption) ?_
          rotate_left 2
          · simp only [List.getElem?_toArray, List.getElem?_cons_succ, List.getElem?_cons_zero]; rfl
          · rfl
          · intro w hSw; (try dsimp only at hSw); go_simp <;> with_reducible rfl
          (try simp only [Act.put, List.setIfInBounds_toArray, List.set_cons_zero, List.set_cons_succ])
          refine PX.wpAnyY_one (i := 7) (o := ?_) (by kernel_rfl) ?_ (fun Kq hKq => ?_)
          rotate_left
          · simp only [List.getElem?_toArray, List.getElem?_cons_succ, List.getElem?_cons_zero]; rfl
          go_simp
          refine (CC'.out _ (ALD.out.drew)).mono ?_
          rintro e w4 ⟨rfl, oi, tc⟩
          have BD4 : Hid (Bx w4 wr.heap.size [.slice xa xn xc, .slice xa' xn' xc', .bool dd]) := tc.bx BXD.out.drew (.inr HCK.out)
          have T4 : Hid (Touch (c k) (c (k + 1)) wr w4) := Touch.after ALD.out.drew tc HCK.out
          have OI4 := Lib.hid oi
          have BX4 : Hid (Bx w4 w1.heap.size (kDn.row N)) := T4.out.bx BX.out (.inl HCK0.out)
          have MD4 := Lib.hid (MD.out.touch HKN.out T4.out OI4.out)
          have WB4 : Hid (Below w.heap.size w w4) := T4.out.below WB.out (by have := HCK0.out; omega) (Nat.le_refl _)
          clear oi tc
          go_wp2_with fail
          refine hKq.out _ _ (BD4.out.three) (fun hHeld => ?_)
          clear hKq Kq
          (try simp only [Act.put, List.setIfInBounds_toArray, List.set_cons_zero, List.set_cons_succ])
          refine PX.wpAnyY_take (i := 8) (oi := ?_) (v := ?_) ?_ (by kernel_rfl) (by kernel_rfl) (by kernel_rfl) (by kernel_rfl) (by kernel_rfl) (fun _ _ _ h => h) (Or.inl ⟨?_, ?_⟩) (by assumption) ?_
          rotate_left 2
          · simp only [List.getElem?_toArray, List.getElem?_cons_succ, List.getElem?_cons_zero]; rfl
          · rfl
          · intro w hSw; (try dsimp only at hSw); go_simp <;> with_reducible rfl
          (try simp only [Act.put, List.setIfInBounds_toArray, List.set_cons_zero, List.set_cons_succ])
          refine PX.wpAnyY_free (i := 9) (o := ?_) (by kernel_rfl) (by kernel_rfl) ?_ (fun Kq hKq => ?_)
          rotate_left
          · simp only [List.getElem?_toArray, List.getElem?_cons_succ, List.getElem?_cons_zero]; rfl
          have h4 := BX4.out
          obtain ⟨q0, q1, q2⟩ := h4.dcell HKN.out Hx.out
          have f0 := h4.frozen (k * 3)
          have f1 := h4.frozen (k * 3 + 1)
          have f2 := h4.frozen (k * 3 + 2)
          go_simp
          refine hKq.out _ _ ?_
          clear hKq Kq
          (try simp only [Act.put, List.setIfInBounds_toArray, List.set_cons_zero, List.set_cons_succ])
          refine PX.wpAnyY_done (by kernel_rfl) ?_ _
          refine NoPanic.normal ?_
          have st := stays_put (g := w1.heap.size) (k := k) (w := w4) (.slice xa xn xc) (.slice none 0 0) (.bool dd)
          have mk5 := Lib.hid (MD4.out.keep st.1 (by rw [st.2]; exact Nat.le_refl _))
          have bx5 := Lib.hid (BX4.out.set3 rfl k HKN.out (⟨xa, xn, xc, none, 0, 0, F⟩ : Dn) (u := .slice xa xn xc) (v := .slice none 0 0) (z := .bool dd) (by show [Value.slice xa xn xc, .slice none 0 0, .bool F.dead] = _; rw [HDF.out]))
          have wb5 := Lib.hid (below_put (g := w1.heap.size) (k := k) WB4.out hg1 (.slice xa xn xc) (.slice none 0 0) (.bool dd))
          clear st q0 q1 q2 f0 f1 f2
          by_cases hcap : mc = m
          · have hsub : m - m = 0 := by omega
            have rdr := HDR.out ma 0 (by
              rw [List.drop_of_length_le (by have := RG.out.long; omega), hsub]
              exact Rg.none' (by unfold maxLen; omega) (fun _ => rfl))
            rw [hsub] at rdr
            have RDR := Lib.hid rdr
            clear rdr hsub
            obtain rfl : m = mc := hcap.symm
            go_wp2_with fail
            go_roundw
            case rel => exact ⟨k + 1, N.set k ⟨xa, xn, xc, none, 0, 0, F⟩, ma, _, _, by omega, by rw [List.length_set, HN.out], by go_num, rfl, RDR.out, HNX.out ⟨xa, xn, xc, none, 0, 0, F⟩ rfl, bx5.out, mk5.out, wb5.out⟩
            case measure => simp [intOf]; omega
          · have hc2 : m < mc := by omega
            cases ma with
            | none => have h0 := (RG.out.nil rfl).2; omega
            | some x =>
              have RDR := Lib.hid (HDR.out _ _ (RG.out.dropB hm2))
              have hsub : m - m = 0 := Nat.sub_self m
              rw [hsub] at RDR
              clear hsub
              go_wp2_with fail
              go_roundw
              case rel => exact ⟨k + 1, N.set k ⟨xa, xn, xc, none, 0, 0, F⟩, _, _, _, by omega, by rw [List.length_set, HN.out], by go_num, rfl, RDR.out, HNX.out ⟨xa, xn, xc, none, 0, 0, F⟩ rfl, bx5.out, mk5.out, wb5.out⟩
              case measure => simp [intOf]; omega
      · obtain rfl : k = M0.length := by omega
        have hdd : devs N = AK.cuts AK.cut (devs L) ks := by
          have := DV.out
          rw [HL0.out, List.take_of_length_le (Nat.le_refl _), List.drop_of_length_le (Nat.le_refl _), List.append_nil] at this
          exact this
        have HDD := Lib.hid hdd
        have od : OwnDs w1.heap.size wr N := ⟨BX.out, MD.out.all⟩
        have hnd := NewDs.of (w := w) od hg1 (by rw [HN.out]; omega)
        rw [HDD.out, HN.out] at hnd
        have ND := Lib.hid hnd
        clear hdd od hnd
        go_wp2_with fail
        go_ret2
        exact ⟨_, rfl, ND.out, WB.out⟩
end Go.Proofs.Ytnhfkfihlkbkfaa.PW
