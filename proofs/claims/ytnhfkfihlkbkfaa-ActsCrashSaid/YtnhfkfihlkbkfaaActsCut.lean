/-
  Contracts of layer 5: devices behind a crash; the document's own.
-/
import Derived.Test.YtnhfkfihlkbkfaaActsRefRuns
import Derived.Test.YtnhfkfihlkbkfaaActsCrash
namespace Go.Proofs.Ytnhfkfihlkbkfaa.PW
open Go.RowKit
open DK (Dv)
set_option linter.unusedVariables false
set_option linter.unusedSimpArgs false
set_option maxRecDepth 100000

/-- Slices of bytes that lie in old memory, or in blocks from base on. -/
def hdU (B0 : Nat) (w0 : World) (base lo hi : Nat) (w : World) (z : Hd) : Prop :=
  ∃ l r, lo ≤ l ∧ base ≤ l ∧ r ≤ hi ∧ ∀ w', Stays l r w w' → Stays 0 B0 w0 w' → RdI 0 (max B0 r) w' z.a z.len z.cap z.l
def kHdU (B0 : Nat) (w0 : World) (base : Nat) : Kind Hd := ⟨1, fun h => [h.val], fun _ => rfl, Hd.nil, hdU B0 w0 base,
  fun ⟨l, r, h1, h2, h3, h4⟩ hs => ⟨l, r, h1, h2, h3, fun w' k1 k2 => h4 w' ((hs.part h1 h3).trans k1) k2⟩,
  fun ⟨l, r, h1, h2, h3, h4⟩ k1 k2 => ⟨l, r, by omega, h2, by omega, h4⟩⟩
def dnU (B0 : Nat) (w0 : World) (lo hi : Nat) (w : World) (x : Dn) : Prop := ∀ w', Stays lo hi w w' → Stays 0 B0 w0 w' → Dn.inn 0 (max B0 hi) w' x
def kDnU (B0 : Nat) (w0 : World) : Kind Dn := ⟨3, Dn.cells, fun _ => rfl, Dn.nil, dnU B0 w0,
  fun h hs w' k1 k2 => h w' (hs.trans k1) k2, fun h k1 k2 w' h1 h2 => DevI.mono (h w' (h1.part k1 k2) h2) (Nat.le_refl _) (by omega)⟩
theorem typed_hdU (B0 : Nat) (w0 : World) (base : Nat) : Typed (kHdU B0 w0 base) 31 34 :=
  ⟨⟨.slice none 0 0, 24, by kernel_rfl, by omega, by kernel_rfl⟩, Nat.one_pos, Try.underlying34, fun x u hu => by
    have hu : u ∈ [x.val] := hu
    obtain rfl := List.mem_singleton.1 hu
    rfl⟩
theorem typed_dnU (B0 : Nat) (w0 : World) : Typed (kDnU B0 w0) 37 22 := ⟨typed_dn.ex, typed_dn.pos, typed_dn.und, typed_dn.one⟩
theorem hdU_old {B0 base lo hi : Nat} {w0 w : World} {z : Hd} (h : RdI 0 B0 w0 z.a z.len z.cap z.l) (h1 : lo ≤ base) (h2 : base ≤ hi) : hdU B0 w0 base lo hi w z :=
  ⟨base, base, h1, Nat.le_refl _, h2, fun w' _ k => (h.keep k).mono (Nat.le_refl _) (by omega)⟩
theorem hdU_new {B0 base lo : Nat} {w0 w : World} {z : Hd} (h : Item lo w z) (h1 : base ≤ lo) : hdU B0 w0 base lo w.heap.size w z :=
  ⟨lo, w.heap.size, Nat.le_refl _, h1, Nat.le_refl _, fun w' k _ => (h.inn.keep k).mono (Nat.zero_le _) (by omega)⟩
/-- A device whose blocks are such slices, in a list of its own. -/
theorem dnU_of {B0 base : Nat} {w0 w : World} {g n c : Nat} {H : List Hd} {D : Dv} (h : GrowK (kHdU B0 w0 base) 31 base w (.slice (some ⟨g, 0, none⟩) n c) H) (hD : lists H = D.bs) (hW : D.ws = []) : dnU B0 w0 base w.heap.size w ⟨some ⟨g, 0, none⟩, n, c, none, 0, 0, D⟩ := by
  intro w' k1 k2
  have hg := h.own.lt g rfl
  obtain ⟨a, cc, e, hr⟩ := h.rg
  injection e with e1 e2 e3
  subst e2 e3
  obtain rfl := e1
  refine ⟨H, [], ⟨rfl, hr.fits, hr.small, (fun h => nomatch h), fun hne => ⟨g, 0, rfl, Nat.zero_le _, by omega, fun i hi j hj => ?_⟩, fun z hz => ?_⟩, rg_nil _ _ _ _, hD, hW.symm⟩
  · rw [k1.cell (p := ⟨g, 0 + i * kHd.m + j, none⟩) hg.1 hg.2]
    exact hr.cellAt hi hj
  · obtain ⟨lo, hi, h1, ⟨l, r, h2, h3, h4, h5⟩, _⟩ := h.each z hz
    exact (h5 w' (k1.part h3 (by omega)) k2).mono (Nat.le_refl _) (by omega)
/-- A store of one struct of one cell over another, where it lies in blocks that are not the list's. -/
theorem GrowK.put1 {α : Type} {K : Kind α} {T : TypeId} {base g n cap : Nat} {w : World} {M : List α} (h : GrowK K T base w (.slice (some ⟨g, 0, none⟩) n cap) M) (hm : K.m = 1) {k : Nat} (hk : k < M.length) {x : α} {u : Value} (hx : K.cells x = [u]) {lo hi : Nat} (hi1 : hi ≤ w.heap.size) (hi2 : K.inn lo hi w x) (hi3 : g < lo ∨ hi ≤ g) :
    GrowK K T base (w.setCell ⟨g, k, none⟩ u) (.slice (some ⟨g, 0, none⟩) n cap) (M.set k x) := by
  have hst : ∀ {lo hi : Nat}, (g < lo ∨ hi ≤ g) → Stays lo hi w (w.setCell ⟨g, k, none⟩ u) := fun h => Stays.setCell (w := w) ⟨g, k, none⟩ _ h
  have hsz : (w.setCell ⟨g, k, none⟩ u).heap.size = w.heap.size := by simp [World.setCell]
  have hrow : (K.row M).set k u = K.row (M.set k x) := by
    apply List.ext_getElem?
    intro i
    have hl : (K.row M).length = M.length := by rw [K.row_length, hm, Nat.mul_one]
    rw [K.row_set M k hk x i, hm, hx, Nat.mul_one]
    simp only [List.getElem?_set, hl]
    by_cases e : k = i
    · subst e
      rw [if_pos rfl, if_pos hk, if_pos ⟨Nat.le_refl _, by omega⟩, Nat.sub_self]
      rfl
    · rw [if_neg e, if_neg (by omega)]
  refine ⟨?_, fun y hy => ?_⟩
  · obtain rfl := h.own.long
    have h1 := h.own
    unfold OwnG at h1 ⊢
    rw [List.length_set, ← hrow]
    exact (World.ownsRow.stored h1 k u).1
  · rw [hsz]
    rcases List.mem_or_eq_of_mem_set hy with hy | rfl
    · obtain ⟨l, r, h1, h2, h3⟩ := h.each y hy
      exact ⟨l, r, h1, K.keep h2 (hst (h3 g rfl)), h3⟩
    · exact ⟨lo, hi, hi1, K.keep hi2 (hst hi3), fun k hk => by cases hk; exact hi3⟩

/-- The writes of the first k that are marked. -/
def keptW (ws : List (Int × List Nat)) (ks : List Bool) (k : Nat) : List (Int × List Nat) := (((ws.zip ks).take k).filter (·.2)).map (·.1)
theorem keptW_next {ws : List (Int × List Nat)} {ks : List Bool} {k : Nat} (h1 : k < ws.length) : keptW ws ks (k + 1) = if ks.getD k false then keptW ws ks k ++ [ws.getD k (0, [])] else keptW ws ks k := by
  unfold keptW
  rcases Nat.lt_or_ge k ks.length with h2 | h2
  · have hz : k < (ws.zip ks).length := by rw [List.length_zip]; omega
    rw [List.take_succ_eq_append_getElem hz, List.filter_append, List.map_append]
    have e2 : (ws.zip ks)[k] = (ws.getD k (0, []), ks.getD k false) := by simp [List.getD, h1, h2]
    rw [e2]
    cases ks.getD k false <;> simp
  · have e : ks.getD k false = false := by simp [List.getD, List.getElem?_eq_none h2]
    rw [e, List.take_of_length_le (by rw [List.length_zip]; omega), List.take_of_length_le (by rw [List.length_zip]; omega)]
    simp
theorem keptW_all (ws : List (Int × List Nat)) (ks : List Bool) : keptW ws ks ws.length = AK.kept ws (ks.take ws.length) := by
  unfold keptW AK.kept
  rw [List.take_of_length_le (by rw [List.length_zip]; omega)]
  have : ∀ (a : List (Int × List Nat)) (b : List Bool), a.zip b = a.zip (b.take a.length) := by
    intro a
    induction a with
    | nil => intro b; rfl
    | cons x r ih => intro b; cases b with
      | nil => rfl
      | cons y s => simp [ih s]
  rw [← this]
theorem lay_snoc (bs : List (List Nat)) (ws : List (Int × List Nat)) (p : Int × List Nat) : DK.lay bs (ws ++ [p]) = (DK.lay bs ws).set p.1.toNat p.2 := by
  unfold DK.lay; rw [List.foldl_append]; rfl

/-- What holds at the head of the outer loop of Cut. -/
def CutRel (w : World) (len : Nat) (Ds : List Dv) (ks : List Bool) (v m i : Value) (wr : World) : Prop :=
  ∃ (M : List Dn) (ra : Option Addr) (rc : Nat), M.length ≤ len ∧ i = .int .i64 (M.length : Nat) ∧ v = .slice ra M.length rc ∧ m = .int .i64 (AK.many (Ds.take M.length) : Nat) ∧
    devs M = AK.cuts AK.rcut (Ds.take M.length) ks ∧ GrowK (kDnU w.heap.size w) 37 w.heap.size wr (.slice ra M.length rc) M ∧ Below w.heap.size w wr
/-- What holds at the head of the inner one. -/
def CutIn (w wr0 : World) (D : Dv) (ks : List Bool) (n0 n n' : Nat) (g gc : Nat) (dd : Bool) (m k : Value) (wr : World) : Prop :=
  ∃ (j : Nat) (H : List Hd), j ≤ n' ∧ k = .int .i64 (j : Nat) ∧ m = .int .i64 ((n0 + j : Nat) : Int) ∧ H.length = n ∧ lists H = DK.lay D.bs ((keptW D.ws (ks.drop n0) j).map DK.fw) ∧
    GrowK (kHdU w.heap.size w wr0.heap.size) 31 wr0.heap.size wr (.slice (some ⟨g, 0, none⟩) n gc) H ∧ Bx wr wr0.heap.size [.slice (some ⟨g, 0, none⟩) n gc, .slice none 0 0, .bool dd] ∧ Below wr0.heap.size wr0 wr

set_option maxHeartbeats 4000000 in
theorem refCut_any (b : Option Addr) (dn dc : Nat) (L : List Dn) (ka : Option Addr) (kl kc : Nat) (ks : List Bool) (w : World) (hr : Rg kDn 0 w.heap.size w b dn dc L) (hk : Rg kBool 0 w.heap.size w ka kl kc ks) (hm : AK.mays (devs L) = true) :
    Calls Try.prog 58 #[.slice b dn dc, .slice ka kl kc] w (NewDv w (AK.cuts AK.rcut (devs L) ks)) := by
  have Hlen := Lib.hid hr.long
  have Hkl := Lib.hid hk.long
  have hs := hr.small'
  have hs' := hk.small'
  have Hr := Lib.hid hr
  have Hk := Lib.hid hk
  have h17 : L.length ≤ 17 := by have := (AK.mays_iff.1 hm).2.1; rw [devs_length] at this; exact this
  have HMS := Lib.hid hm
  clear hr hk hm
  go_enter Try.func58, Try.ntmps58
  go_wp2_with fail
  go_loopw [5, 6, 7] (fun v m i wr => CutRel w dn (devs L) ks v m i wr) (fun _ _ i _ => dn - (intOf i).toNat)
  case atStart => exact ⟨[], none, 0, Nat.zero_le _, rfl, rfl, rfl, rfl, GrowK.nil _ _ _ _, Below.refl _ _⟩
  case round =>
    obtain ⟨M, ra, rc, hk, rfl, rfl, rfl, hd, hg, hbw⟩ := hrel
    have WB := Lib.hid hbw
    have GM := Lib.hid hg
    have HD := Lib.hid hd
    have hM17 : M.length ≤ 17 := by have := Hlen.out; omega
    clear hbw hg hd
    by_cases hlt : M.length < dn
    · have hkL : M.length < L.length := by rw [← Hlen.out]; exact hlt
      have hkD : M.length < (devs L).length := by rw [devs_length]; exact hkL
      obtain ⟨ab, off, xa, xn, xc, xa', xn', xc', D, e1, hbB, e2, dv⟩ := Hr.out.dev M.length hkL
      subst e1
      have ED : (devs L).getD M.length Dv.nil = D := by rw [devs_getD, e2]
      have hmay : DK.may D = true := by rw [← ED]; exact (AK.mays_iff.1 HMS.out).2.2 _ (AK.mem_get hkD)
      obtain ⟨m1, m2, m3, m4, m5, m6⟩ := DK.may_iff.1 hmay
      have CX : Hid (∀ w', Below w.heap.size w w' → w'.cell? ⟨ab, off + M.length * 3, none⟩ = some (.slice xa xn xc) ∧ w'.cell? ⟨ab, off + M.length * 3 + 1, none⟩ = some (.slice xa' xn' xc') ∧ w'.cell? ⟨ab, off + M.length * 3 + 2, none⟩ = some (.bool D.dead)) := fun w' h =>
        (Hr.out.below h (Nat.le_refl _)).dcell hkL e2
      have hn0 := many_small HMS.out M.length
      have hn1 := many_small HMS.out (M.length + 1)
      have hmn := many_snoc hkD
      rw [ED] at hmn
      have hxn : xn = D.bs.length := dv.at.long.1
      have hxn' : xn' = D.ws.length := dv.at.long.2
      obtain ⟨H0, K0, rgH, rgK, lH, lK⟩ := dv
      have hH0 : H0.length = xn := rgH.long.symm
      have hK0 : K0.length = xn' := rgK.long.symm
      have rgU : Rg (kHdU w.heap.size w wr.heap.size) 0 wr.heap.size wr xa xn xc H0 := by
        have h1 := rgH.keep (.ofBelow WB.out (Nat.le_refl _))
        exact ⟨h1.long, h1.fits, h1.small, h1.nil, fun hne => (by
          obtain ⟨bb, oo, ha, _, hb2, hc⟩ := h1.cells hne
          exact ⟨bb, oo, ha, Nat.zero_le _, Nat.lt_of_lt_of_le hb2 WB.out.size, hc⟩), fun x hx => hdU_old (rgH.each x hx) (Nat.zero_le _) (Nat.le_refl _)⟩
      have WT : Hid (∀ j, j < xn' → ∃ (zb zo : Nat) (p : Nat) (za : Option Addr) (zn zc : Nat) (zl : List Nat), xa' = some ⟨zb, zo, none⟩ ∧ D.ws.getD j (0, []) = ((p : Int), zl) ∧ p < xn ∧ zl.length ≤ 128 ∧ (∀ w', Below w.heap.size w w' → w'.cell? ⟨zb, zo + j * 2, none⟩ = some (.int .i64 (p : Int)) ∧ w'.cell? ⟨zb, zo + j * 2 + 1, none⟩ = some (.slice za zn zc) ∧ Rd w'.heap.size w' za zn zc zl)) := fun j hj => by
        have hjK : j < K0.length := by rw [hK0]; exact hj
        obtain ⟨zb, zo, e0, _, hzb, hc, hin⟩ := rgK.at j hjK
        have hw0 : D.ws.getD j (0, []) = ((K0.getD j Wr.nil).n, (K0.getD j Wr.nil).h.l) := by rw [← lK, wlist_getD]
        have hok := okW_iff.1 (m6 (D.ws.getD j (0, [])) (AK.mem_get (by rw [← hxn']; exact hj)))
        rw [hw0] at hok
        have hh := DK.has_iff.1 hok.1
        obtain ⟨p, hp⟩ := Int.eq_ofNat_of_zero_le hh.1
        have hp' : (K0.getD j Wr.nil).n = (p : Int) := hp
        have hh' : (p : Int) < (D.bs.length : Int) := by rw [← hp']; exact hh.2
        have hsz : (K0.getD j Wr.nil).h.l.length = 0 ∨ (K0.getD j Wr.nil).h.l.length = 128 := DK.sized_iff.1 hok.2
        refine ⟨zb, zo, p, (K0.getD j Wr.nil).h.a, (K0.getD j Wr.nil).h.len, (K0.getD j Wr.nil).h.cap, (K0.getD j Wr.nil).h.l, e0, by rw [hw0, hp'], by omega, by omega, fun w' h => ⟨?_, ?_, ?_⟩⟩
        · rw [h.cell (p := ⟨zb, zo + j * 2, none⟩) hzb]
          have := hc 0 (show 0 < 2 by omega)
          rw [show kWr.cells (K0.getD j kWr.nil) = [.int .i64 (K0.getD j Wr.nil).n, (K0.getD j Wr.nil).h.val] from rfl, hp'] at this
          exact this
        · rw [h.cell (p := ⟨zb, zo + j * 2 + 1, none⟩) hzb]
          exact hc 1 (show 1 < 2 by omega)
        · exact (hin.1.below h).mono h.size
      have HOLD : Hid (∀ z ∈ H0, RdI 0 w.heap.size w z.a z.len z.cap z.l) := fun z hz => rgH.each z hz
      have HED := Lib.hid ED
      have HKD := Lib.hid hkD
      have HMN := Lib.hid hmn
      have HXN := Lib.hid hxn
      have HXN' := Lib.hid hxn'
      have RGU := Lib.hid rgU
      have HLH := Lib.hid lH
      have HHL := Lib.hid hH0
      have hxn0 : 1 ≤ xn := by omega
      have hxnm : xn ≤ 256 := by omega
      have hxnm' : xn' ≤ 1024 := by omega
      have hmn2 : AK.many ((devs L).take M.length) + xn' ≤ 20000 := by omega
      have iM : (M.length : Int) < (dn : Int) := by omega
      obtain ⟨wa, rfl⟩ : ∃ wo : World, wo = wr := ⟨_, rfl⟩
      have bxd := Bx.new wa [.slice none 0 0, .slice none 0 0, .bool D.dead] 37
      have ald : Below wa.heap.size wa (wa.alloc (.cells #[.slice none 0 0, .slice none 0 0, .bool D.dead] 37)) := (Below.refl _ _).alloc (Nat.le_refl _) _
      obtain ⟨c0, c1, c2⟩ := CX.out wa WB.out
      clear ED hmay m1 m2 m3 m4 m5 m6 hn0 hn1 hmn hxn hxn' rgH rgK lH lK hH0 hK0 rgU hkL hkD e2
      generalize hn0 : AK.many ((devs L).take M.length) = n0 at *
      have HN0 := Lib.hid hn0
      clear hn0
      generalize hdd : D.dead = dd at *
      have HDD := Lib.hid hdd
      clear hdd
      go_wp2_with fail
      generalize wa.alloc (.cells #[.slice none 0 0, .slice none 0 0, .bool dd] 37) = W1 at *
      have BXD := Lib.hid bxd
      have ALD := Lib.hid ald
      clear bxd ald c0 c1 c2
      refine wp_region_noPanic ?_
      refine PX.wp_region_y (fun w' => Below W1.heap.size W1 w') [9] (by kernel_rfl) (Below.refl _ _).drew (fun hHeld => ?_)
      refine PX.wpAnyY_take (i := 0) (oi := ?_) (v := ?_) ?_ (by kernel_rfl) (by kernel_rfl) (by kernel_rfl) (by kernel_rfl) (by kernel_rfl) (fun _ _ _ h => h) (Or.inl ⟨?_, ?_⟩) (by assumption) ?_
      rotate_left 2
      · simp only [List.getElem?_toArray, List.getElem?_cons_succ, List.getElem?_cons_zero]; rfl
      · rfl
      · intro w hSw; (try dsimp only at hSw); go_simp <;> with_reducible rfl
      (try simp only [Act.put, List.setIfInBounds_toArray, List.set_cons_zero, List.set_cons_succ])
      refine PX.wpAnyY_take (i := 1) (oi := ?_) (v := ?_) ?_ (by kernel_rfl) (by kernel_rfl) (by kernel_rfl) (by kernel_rfl) (by kernel_rfl) (fun _ _ _ h => h) (Or.inl ⟨?_, ?_⟩) (by assumption) ?_
      rotate_left 2
      · simp only [List.getElem?_toArray, List.getElem?_cons_succ, List.getElem?_cons_zero]; rfl
      · rfl
      · intro w hSw; (try dsimp only at hSw); obtain ⟨q0, q1, q2⟩ := (BXD.out.here hSw).three; go_simp <;> with_reducible rfl
      (try simp only [Act.put, List.setIfInBounds_toArray, List.set_cons_zero, List.set_cons_succ])
      refine PX.wpAnyY_take (i := 2) (oi := ?_) (v := ?_) ?_ (by kernel_rfl) (by kernel_rfl) (by kernel_rfl) (by kernel_rfl) (by kernel_rfl) (fun _ _ _ h => h) (Or.inl ⟨?_, ?_⟩) (by assumption) ?_
      rotate_left 2
      · simp only [List.getElem?_toArray, List.getElem?_cons_succ, List.getElem?_cons_zero]; rfl
      · rfl
      · intro w hSw; (try dsimp only at hSw); go_simp <;> with_reducible rfl
      (try simp only [Act.put, List.setIfInBounds_toArray, List.set_cons_zero, List.set_cons_succ])
      refine PX.wpAnyY_take (i := 3) (oi := ?_) (v := ?_) ?_ (by kernel_rfl) (by kernel_rfl) (by kernel_rfl) (by kernel_rfl) (by kernel_rfl) (fun _ _ _ h => h) (Or.inl ⟨?_, ?_⟩) (by assumption) ?_
      rotate_left 2
      · simp only [List.getElem?_toArray, List.getElem?_cons_succ, List.getElem?_cons_zero]; rfl
      · rfl
      · intro w hSw; (try dsimp only at hSw); go_simp <;> with_reducible rfl
      (try simp only [Act.put, List.setIfInBounds_toArray, List.set_cons_zero, List.set_cons_succ])
      refine PX.wpAnyY_take (i := 4) (oi := ?_) (v := ?_) ?_ (by kernel_rfl) (by kernel_rfl) (by kernel_rfl) (by kernel_rfl) (by kernel_rfl) (fun _ _ _ h => h) (Or.inl ⟨?_, ?_⟩) (by assumption) ?_
      rotate_left 2
      · simp only [List.getElem?_toArray, List.getElem?_cons_succ, List.getElem?_cons_zero]; rfl
      · rfl
      · intro w hSw; (try dsimp only at hSw); go_simp <;> with_reducible rfl
      (try simp only [Act.put, List.setIfInBounds_toArray, List.set_cons_zero, List.set_cons_succ])
      refine PX.wpAnyY_take (i := 5) (oi := ?_) (v := ?_) ?_ (by kernel_rfl) (by kernel_rfl) (by kernel_rfl) (by kernel_rfl) (by kernel_rfl) (fun _ _ _ h => h) (Or.inl ⟨?_, ?_⟩) (by assumption) ?_
      rotate_left 2
      · simp only [List.getElem?_toArray, List.getElem?_cons_succ, List.getElem?_cons_zero]; rfl
      · rfl
      · intro w hSw; (try dsimp only at hSw); go_simp <;> with_reducible rfl
      (try simp only [Act.put, List.setIfInBounds_toArray, List.set_cons_zero, List.set_cons_succ])
      refine PX.wpAnyY_take (i := 6) (oi := ?_) (v := ?_) ?_ (by kernel_rfl) (by kernel_rfl) (by kernel_rfl) (by kernel_rfl) (by kernel_rfl) (fun _ _ _ h => h) (Or.inl ⟨?_, ?_⟩) (by assumption) ?_
      rotate_left 2
      · simp only [List.getElem?_toArray, List.getElem?_cons_succ, List.getElem?_cons_zero]; rfl
      · rfl
      · intro w hSw; (try dsimp only at hSw); obtain ⟨q0, q1, q2⟩ := CX.out _ (thence WB.out (thence ALD.out hSw (Nat.le_refl _)) (Nat.le_refl _)); go_simp <;> with_reducible rfl
      (try simp only [Act.put, List.setIfInBounds_toArray, List.set_cons_zero, List.set_cons_succ])
      refine PX.wpAnyY_one (i := 7) (o := ?_) (by kernel_rfl) ?_ (fun Kq hKq => ?_)
      rotate_left
      · simp only [List.getElem?_toArray, List.getElem?_cons_succ, List.getElem?_cons_zero]; rfl
      obtain ⟨v6, w6, r6, g6, b6⟩ := GrowK.first (typed_hdU w.heap.size w wa.heap.size) ((RGU.out.below (ALD.out.drew) (Nat.le_refl _)).mono (Nat.le_refl _) ALD.out.size) (by have := HHL.out; omega)
      obtain ⟨g, gc, rfl, hg1, hg2, hg3, hg4⟩ := g6.form (by have := HHL.out; omega)
      have R6 := Lib.hid r6
      have hgW : W1.heap.size ≤ g := hg1
      have G6 : Hid (GrowK (kHdU w.heap.size w wa.heap.size) 31 wa.heap.size w6 (.slice (some ⟨g, 0, none⟩) H0.length gc) H0) := ⟨World.ownsRow.mono g6.own ALD.out.size, fun z hz => ⟨wa.heap.size, wa.heap.size, Nat.le_trans ALD.out.size b6.size, hdU_old (HOLD.out z hz) (Nat.le_refl _) (Nat.le_refl _), fun k hk => by cases hk; exact .inr (Nat.le_trans ALD.out.size hgW)⟩⟩
      have hg1 := Lib.hid hgW
      have B6 : Hid (Below W1.heap.size W1 w6) := thence (Below.refl _ _).drew b6 (Nat.le_refl _)
      clear r6 g6 b6 hg2 hg3 hg4 hgW
      refine PX.step_append_run _ _ _ _ (by rfl) (by rfl) R6.out ?_
      refine hKq.out _ _ (B6.out) (fun hHeld => ?_)
      clear hKq Kq
      (try simp only [Act.put, List.setIfInBounds_toArray, List.set_cons_zero, List.set_cons_succ])
      refine PX.wpAnyY_take (i := 8) (oi := ?_) (v := ?_) ?_ (by kernel_rfl) (by kernel_rfl) (by kernel_rfl) (by kernel_rfl) (by kernel_rfl) (fun _ _ _ h => h) (Or.inl ⟨?_, ?_⟩) (by assumption) ?_
      rotate_left 2
      · simp only [List.getElem?_toArray, List.getElem?_cons_succ, List.getElem?_cons_zero]; rfl
      · rfl
      · intro w hSw; (try dsimp only at hSw); go_simp <;> with_reducible rfl
      (try simp only [Act.put, List.setIfInBounds_toArray, List.set_cons_zero, List.set_cons_succ])
      refine PX.wpAnyY_free (i := 9) (o := ?_) (by kernel_rfl) (by kernel_rfl) ?_ (fun Kq hKq => ?_)
      rotate_left
      · simp only [List.getElem?_toArray, List.getElem?_cons_succ, List.getElem?_cons_zero]; rfl
      obtain ⟨q0, q1, q2⟩ := (BXD.out.here B6.out).three
      have f0 := (BXD.out.here B6.out).frozen 0
      go_simp
      refine hKq.out _ _ ?_
      clear hKq Kq
      (try simp only [Act.put, List.setIfInBounds_toArray, List.set_cons_zero, List.set_cons_succ])
      refine PX.wpAnyY_done (by kernel_rfl) ?_ _
      refine NoPanic.normal ?_
      have BX6 : Hid (Bx (w6.setCell ⟨wa.heap.size, 0, none⟩ (.slice (some ⟨g, 0, none⟩) H0.length gc)) wa.heap.size [.slice (some ⟨g, 0, none⟩) H0.length gc, .slice none 0 0, .bool dd]) := (BXD.out.here B6.out).set 0 _
      have B6' : Hid (Below wa.heap.size wa (w6.setCell ⟨wa.heap.size, 0, none⟩ (.slice (some ⟨g, 0, none⟩) H0.length gc))) := (thence ALD.out B6.out (Nat.le_refl _)).setCell (p := ⟨wa.heap.size, 0, none⟩) (Nat.le_refl _) _
      have hnb := BXD.out.lt
      have G6' : Hid (GrowK (kHdU w.heap.size w wa.heap.size) 31 wa.heap.size (w6.setCell ⟨wa.heap.size, 0, none⟩ (.slice (some ⟨g, 0, none⟩) H0.length gc)) (.slice (some ⟨g, 0, none⟩) H0.length gc) H0) :=
        G6.out.store ⟨wa.heap.size, 0, none⟩ _ (fun e => by cases e; exact absurd hg1.out (by show ¬ W1.heap.size ≤ wa.heap.size; omega)) (fun z hz =>
          ⟨wa.heap.size, wa.heap.size, by have := ALD.out.size; have := B6.out.size; omega, hdU_old (HOLD.out z hz) (Nat.le_refl _) (Nat.le_refl _), (fun k hk => by cases hk; exact .inr (Nat.le_trans ALD.out.size hg1.out)), .inr (Nat.le_refl _)⟩)
      have hH0 := HHL.out
      generalize hxm : H0.length = xm at *
      have HXM := Lib.hid hxm
      subst hH0
      clear hxm
      generalize w6.setCell ⟨wa.heap.size, 0, none⟩ (.slice (some ⟨g, 0, none⟩) xm gc) = W7 at *
      clear hHeld
      go_wp2_with fail
      go_loopw [6, 9] (fun m k wr => CutIn w wa D ks n0 xm xn' g gc dd m k wr) (fun _ k _ => xn' - (intOf k).toNat)
      case atStart => exact ⟨0, H0, Nat.zero_le _, rfl, rfl, HXM.out, HLH.out, G6'.out, BX6.out, B6'.out⟩
      case round =>
        obtain ⟨j, H, hj, rfl, rfl, hHl, hlay, hg, hbx, hbw⟩ := hrel
        have WBi := Lib.hid hbw
        have GH := Lib.hid hg
        have BXi := Lib.hid hbx
        have HLY := Lib.hid hlay
        have HHL2 := Lib.hid hHl
        clear hbw hg hbx hlay hHl
        obtain ⟨c0, c1, c2⟩ := CX.out wr (thence WB.out WBi.out (Nat.le_refl _))
        by_cases hjl : j < xn'
        · obtain ⟨zb, zo, p, za, zn, zc, zl, ez, hwp, hpx, hzl, hcz⟩ := WT.out j hjl
          subst ez
          have hnx := keptW_next (ws := D.ws) (ks := ks.drop n0) (k := j) (by rw [← HXN'.out]; exact hjl)
          obtain ⟨nj, hnj⟩ : ∃ nj, nj = n0 + j := ⟨_, rfl⟩
          have hgd : (ks.drop n0).getD j false = ks.getD nj false := by simp [List.getD, List.getElem?_drop, hnj]
          rw [hgd, hwp] at hnx
          have hnj2 : nj ≤ 30000 := by omega
          have ij : (j : Int) < (xn' : Int) := by omega
          have HNJ : Hid ((n0 + (j + 1) : Nat) = nj + 1) := by show _ = _; omega
          rw [← hnj]
          have HJL := Lib.hid hjl
          clear hgd hwp hnj
          by_cases hnl : nj < kl
          · obtain ⟨kb, koff, ek, -, hkb⟩ := Hk.out.addr (by rw [← Hkl.out]; omega)
            subst ek
            have hmk := (Hk.out.below (thence WB.out WBi.out (Nat.le_refl _)) (Nat.le_refl _)).mark (k := nj) (by rw [← Hkl.out]; exact hnl)
            have inl : (nj : Int) < (kl : Int) := by omega
            cases hb : ks.getD nj false with
            | false =>
              rw [hb] at hmk hnx
              have HN2 : Hid (keptW D.ws (ks.drop n0) (j + 1) = keptW D.ws (ks.drop n0) j) := by show _ = _; rw [hnx]; rfl
              clear hnx hb hcz hkb
              go_wp2_with fail
              go_roundw
              case rel => exact ⟨j + 1, H, by omega, by go_num, by rw [HNJ.out]; go_num, HHL2.out, by rw [HN2.out]; exact HLY.out, GH.out, BXi.out, WBi.out⟩
              case measure => simp [intOf]; omega
            | true =>
              rw [hb] at hmk hnx
              have HN2 : Hid (keptW D.ws (ks.drop n0) (j + 1) = keptW D.ws (ks.drop n0) j ++ [((p : Int), zl)]) := by show _ = _; rw [hnx]; rfl
              have hpH : p < H.length := by rw [HHL2.out]; exact hpx
              have ipx : (p : Int) < (xm : Int) := by omega
              have CZ := Lib.hid hcz
              have HPH := Lib.hid hpH
              have HZL := Lib.hid hzl
              have hgwr : g < wr.heap.size := (GH.out.own.lt g rfl).2
              have HGA := Lib.hid (GH.out.own.lt g rfl)
              clear hnx hb hcz hkb hpH hzl hpx
              go_wp2_with fail
              refine wp_region_noPanic ?_
              refine PX.wp_region_y (fun w' => Below wr.heap.size wr w') [22] (by kernel_rfl) (Below.refl _ _).drew (fun hHeld => ?_)
              refine PX.wpAnyY_take (i := 0) (oi := ?_) (v := ?_) ?_ (by kernel_rfl) (by kernel_rfl) (by kernel_rfl) (by kernel_rfl) (by kernel_rfl) (fun _ _ _ h => h) (Or.inl ⟨?_, ?_⟩) (by assumption) ?_
              rotate_left 2
              · simp only [List.getElem?_toArray, List.getElem?_cons_succ, List.getElem?_cons_zero]; rfl
              · rfl
              · intro w hSw; (try dsimp only at hSw); go_simp <;> with_reducible rfl
              (try simp only [Act.put, List.setIfInBounds_toArray, List.set_cons_zero, List.set_cons_succ])
              refine PX.wpAnyY_take (i := 1) (oi := ?_) (v := ?_) ?_ (by kernel_rfl) (by kernel_rfl) (by kernel_rfl) (by kernel_rfl) (by kernel_rfl) (fun _ _ _ h => h) (Or.inl ⟨?_, ?_⟩) (by assumption) ?_
              rotate_left 2
              · simp only [List.getElem?_toArray, List.getElem?_cons_succ, List.getElem?_cons_zero]; rfl
              · rfl
              · intro w hSw; (try dsimp only at hSw); obtain ⟨q0, q1, q2⟩ := (BXi.out.here hSw).three; go_simp <;> with_reducible rfl
              (try simp only [Act.put, List.setIfInBounds_toArray, List.set_cons_zero, List.set_cons_succ])
              refine PX.wpAnyY_take (i := 2) (oi := ?_) (v := ?_) ?_ (by kernel_rfl) (by kernel_rfl) (by kernel_rfl) (by kernel_rfl) (by kernel_rfl) (fun _ _ _ h => h) (Or.inl ⟨?_, ?_⟩) (by assumption) ?_
              rotate_left 2
              · simp only [List.getElem?_toArray, List.getElem?_cons_succ, List.getElem?_cons_zero]; rfl
              · rfl
              · intro w hSw; (try dsimp only at hSw); go_simp <;> with_reducible rfl
              (try simp only [Act.put, List.setIfInBounds_toArray, List.set_cons_zero, List.set_cons_succ])
              refine PX.wpAnyY_take (i := 3) (oi := ?_) (v := ?_) ?_ (by kernel_rfl) (by kernel_rfl) (by kernel_rfl) (by kernel_rfl) (by kernel_rfl) (fun _ _ _ h => h) (Or.inl ⟨?_, ?_⟩) (by assumption) ?_
              rotate_left 2
              · simp only [List.getElem?_toArray, List.getElem?_cons_succ, List.getElem?_cons_zero]; rfl
              · rfl
              · intro w hSw; (try dsimp only at hSw); go_simp <;> with_reducible rfl
              (try simp only [Act.put, List.setIfInBounds_toArray, List.set_cons_zero, List.set_cons_succ])
              refine PX.wpAnyY_take (i := 4) (oi := ?_) (v := ?_) ?_ (by kernel_rfl) (by kernel_rfl) (by kernel_rfl) (by kernel_rfl) (by kernel_rfl) (fun _ _ _ h => h) (Or.inl ⟨?_, ?_⟩) (by assumption) ?_
              rotate_left 2
              · simp only [List.getElem?_toArray, List.getElem?_cons_succ, List.getElem?_cons_zero]; rfl
              · rfl
              · intro w hSw; (try dsimp only at hSw); go_simp <;> with_reducible rfl
              (try simp only [Act.put, List.setIfInBounds_toArray, List.set_cons_zero, List.set_cons_succ])
              refine PX.wpAnyY_take (i := 5) (oi := ?_) (v := ?_) ?_ (by kernel_rfl) (by kernel_rfl) (by kernel_rfl) (by kernel_rfl) (by kernel_rfl) (fun _ _ _ h => h) (Or.inl ⟨?_, ?_⟩) (by assumption) ?_
              rotate_left 2
              · simp only [List.getElem?_toArray, List.getElem?_cons_succ, List.getElem?_cons_zero]; rfl
              · rfl
              · intro w hSw; (try dsimp only at hSw); go_simp <;> with_reducible rfl
              (try simp only [Act.put, List.setIfInBounds_toArray, List.set_cons_zero, List.set_cons_succ])
              refine PX.wpAnyY_take (i := 6) (oi := ?_) (v := ?_) ?_ (by kernel_rfl) (by kernel_rfl) (by kernel_rfl) (by kernel_rfl) (by kernel_rfl) (fun _ _ _ h => h) (Or.inl ⟨?_, ?_⟩) (by assumption) ?_
              rotate_left 2
              · simp only [List.getElem?_toArray, List.getElem?_cons_succ, List.getElem?_cons_zero]; rfl
              · rfl
              · intro w hSw; (try dsimp only at hSw); obtain ⟨q0, q1, q2⟩ := CX.out _ (thence (thence WB.out WBi.out (Nat.le_refl _)) hSw (Nat.le_refl _)); go_simp <;> with_reducible rfl
              (try simp only [Act.put, List.setIfInBounds_toArray, List.set_cons_zero, List.set_cons_succ])
              refine PX.wpAnyY_take (i := 7) (oi := ?_) (v := ?_) ?_ (by kernel_rfl) (by kernel_rfl) (by kernel_rfl) (by kernel_rfl) (by kernel_rfl) (fun _ _ _ h => h) (Or.inl ⟨?_, ?_⟩) (by assumption) ?_
              rotate_left 2
              · simp only [List.getElem?_toArray, List.getElem?_cons_succ, List.getElem?_cons_zero]; rfl
              · rfl
              · intro w hSw; (try dsimp only at hSw); go_simp <;> with_reducible rfl
              (try simp only [Act.put, List.setIfInBounds_toArray, List.set_cons_zero, List.set_cons_succ])
              refine PX.wpAnyY_take (i := 8) (oi := ?_) (v := ?_) ?_ (by kernel_rfl) (by kernel_rfl) (by kernel_rfl) (by kernel_rfl) (by kernel_rfl) (fun _ _ _ h => h) (Or.inl ⟨?_, ?_⟩) (by assumption) ?_
              rotate_left 2
              · simp only [List.getElem?_toArray, List.getElem?_cons_succ, List.getElem?_cons_zero]; rfl
              · rfl
              · intro w hSw; (try dsimp only at hSw); go_simp <;> with_reducible rfl
              (try simp only [Act.put, List.setIfInBounds_toArray, List.set_cons_zero, List.set_cons_succ])
              refine PX.wpAnyY_take (i := 9) (oi := ?_) (v := ?_) ?_ (by kernel_rfl) (by kernel_rfl) (by kernel_rfl) (by kernel_rfl) (by kernel_rfl) (fun _ _ _ h => h) (Or.inl ⟨?_, ?_⟩) (by assumption) ?_
              rotate_left 2
              · simp only [List.getElem?_toArray, List.getElem?_cons_succ, List.getElem?_cons_zero]; rfl
              · rfl
              · intro w hSw; (try dsimp only at hSw); go_simp <;> with_reducible rfl
              (try simp only [Act.put, List.setIfInBounds_toArray, List.set_cons_zero, List.set_cons_succ])
              refine PX.wpAnyY_take (i := 10) (oi := ?_) (v := ?_) ?_ (by kernel_rfl) (by kernel_rfl) (by kernel_rfl) (by kernel_rfl) (by kernel_rfl) (fun _ _ _ h => h) (Or.inl ⟨?_, ?_⟩) (by assumption) ?_
              rotate_left 2
              · simp only [List.getElem?_toArray, List.getElem?_cons_succ, List.getElem?_cons_zero]; rfl
              · rfl
              · intro w hSw; (try dsimp only at hSw); obtain ⟨z0, z1, -⟩ := CZ.out _ (thence (thence WB.out WBi.out (Nat.le_refl _)) hSw (Nat.le_refl _)); go_simp <;> with_reducible rfl
              (try simp only [Act.put, List.setIfInBounds_toArray, List.set_cons_zero, List.set_cons_succ])
              refine PX.wpAnyY_take (i := 11) (oi := ?_) (v := ?_) ?_ (by kernel_rfl) (by kernel_rfl) (by kernel_rfl) (by kernel_rfl) (by kernel_rfl) (fun _ _ _ h => h) (Or.inl ⟨?_, ?_⟩) (by assumption) ?_
              rotate_left 2
              · simp only [List.getElem?_toArray, List.getElem?_cons_succ, List.getElem?_cons_zero]; rfl
              · rfl
              · intro w hSw; (try dsimp only at hSw); go_simp <;> with_reducible rfl
              (try simp only [Act.put, List.setIfInBounds_toArray, List.set_cons_zero, List.set_cons_succ])
              refine PX.wpAnyY_take (i := 12) (oi := ?_) (v := ?_) ?_ (by kernel_rfl) (by kernel_rfl) (by kernel_rfl) (by kernel_rfl) (by kernel_rfl) (fun _ _ _ h => h) (Or.inl ⟨?_, ?_⟩) (by assumption) ?_
              rotate_left 2
              · simp only [List.getElem?_toArray, List.getElem?_cons_succ, List.getElem?_cons_zero]; rfl
              · rfl
              · intro w hSw; (try dsimp only at hSw); go_simp <;> with_reducible rfl
              (try simp only [Act.put, List.setIfInBounds_toArray, List.set_cons_zero, List.set_cons_succ])
              refine PX.wpAnyY_take (i := 13) (oi := ?_) (v := ?_) ?_ (by kernel_rfl) (by kernel_rfl) (by kernel_rfl) (by kernel_rfl) (by kernel_rfl) (fun _ _ _ h => h) (Or.inl ⟨?_, ?_⟩) (by assumption) ?_
              rotate_left 2
              · simp only [List.getElem?_toArray, List.getElem?_cons_succ, List.getElem?_cons_zero]; rfl
              · rfl
              · intro w hSw; (try dsimp only at hSw); go_simp <;> with_reducible rfl
              (try simp only [Act.put, List.setIfInBounds_toArray, List.set_cons_zero, List.set_cons_succ])
              refine PX.wpAnyY_take (i := 14) (oi := ?_) (v := ?_) ?_ (by kernel_rfl) (by kernel_rfl) (by kernel_rfl) (by kernel_rfl) (by kernel_rfl) (fun _ _ _ h => h) (Or.inl ⟨?_, ?_⟩) (by assumption) ?_
              rotate_left 2
              · simp only [List.getElem?_toArray, List.getElem?_cons_succ, List.getElem?_cons_zero]; rfl
              · rfl
              · intro w hSw; (try dsimp only at hSw); go_simp <;> with_reducible rfl
              (try simp only [Act.put, List.setIfInBounds_toArray, List.set_cons_zero, List.set_cons_succ])
              refine PX.wpAnyY_take (i := 15) (oi := ?_) (v := ?_) ?_ (by kernel_rfl) (by kernel_rfl) (by kernel_rfl) (by kernel_rfl) (by kernel_rfl) (fun _ _ _ h => h) (Or.inl ⟨?_, ?_⟩) (by assumption) ?_
              rotate_left 2
              · simp only [List.getElem?_toArray, List.getElem?_cons_succ, List.getElem?_cons_zero]; rfl
              · rfl
              · intro w hSw; (try dsimp only at hSw); obtain ⟨q0, q1, q2⟩ := CX.out _ (thence (thence WB.out WBi.out (Nat.le_refl _)) hSw (Nat.le_refl _)); go_simp <;> with_reducible rfl
              (try simp only [Act.put, List.setIfInBounds_toArray, List.set_cons_zero, List.set_cons_succ])
              refine PX.wpAnyY_take (i := 16) (oi := ?_) (v := ?_) ?_ (by kernel_rfl) (by kernel_rfl) (by kernel_rfl) (by kernel_rfl) (by kernel_rfl) (fun _ _ _ h => h) (Or.inl ⟨?_, ?_⟩) (by assumption) ?_
              rotate_left 2
              · simp only [List.getElem?_toArray, List.getElem?_cons_succ, List.getElem?_cons_zero]; rfl
              · rfl
              · intro w hSw; (try dsimp only at hSw); go_simp <;> with_reducible rfl
              (try simp only [Act.put, List.setIfInBounds_toArray, List.set_cons_zero, List.set_cons_succ])
              refine PX.wpAnyY_take (i := 17) (oi := ?_) (v := ?_) ?_ (by kernel_rfl) (by kernel_rfl) (by kernel_rfl) (by kernel_rfl) (by kernel_rfl) (fun _ _ _ h => h) (Or.inl ⟨?_, ?_⟩) (by assumption) ?_
              rotate_left 2
              · simp only [List.getElem?_toArray, List.getElem?_cons_succ, List.getElem?_cons_zero]; rfl
              · rfl
              · intro w hSw; (try dsimp only at hSw); go_simp <;> with_reducible rfl
              (try simp only [Act.put, List.setIfInBounds_toArray, List.set_cons_zero, List.set_cons_succ])
              refine PX.wpAnyY_take (i := 18) (oi := ?_) (v := ?_) ?_ (by kernel_rfl) (by kernel_rfl) (by kernel_rfl) (by kernel_rfl) (by kernel_rfl) (fun _ _ _ h => h) (Or.inl ⟨?_, ?_⟩) (by assumption) ?_
              rotate_left 2
              · simp only [List.getElem?_toArray, List.getElem?_cons_succ, List.getElem?_cons_zero]; rfl
              · rfl
              · intro w hSw; (try dsimp only at hSw); go_simp <;> with_reducible rfl
              (try simp only [Act.put, List.setIfInBounds_toArray, List.set_cons_zero, List.set_cons_succ])
              refine PX.wpAnyY_take (i := 19) (oi := ?_) (v := ?_) ?_ (by kernel_rfl) (by kernel_rfl) (by kernel_rfl) (by kernel_rfl) (by kernel_rfl) (fun _ _ _ h => h) (Or.inl ⟨?_, ?_⟩) (by assumption) ?_
              rotate_left 2
              · simp only [List.getElem?_toArray, List.getElem?_cons_succ, List.getElem?_cons_zero]; rfl
              · rfl
              · intro w hSw; (try dsimp only at hSw); obtain ⟨z0, z1, -⟩ := CZ.out _ (thence (thence WB.out WBi.out (Nat.le_refl _)) hSw (Nat.le_refl _)); go_simp <;> with_reducible rfl
              (try simp only [Act.put, List.setIfInBounds_toArray, List.set_cons_zero, List.set_cons_succ])
              refine PX.wpAnyY_one (i := 20) (o := ?_) (by kernel_rfl) ?_ (fun Kq hKq => ?_)
              rotate_left
              · simp only [List.getElem?_toArray, List.getElem?_cons_succ, List.getElem?_cons_zero]; rfl
              go_simp
              have HWH := Lib.hid (thence (thence WB.out WBi.out (Nat.le_refl _)) hHeld (Nat.le_refl _))
              refine (refFull_new za zn zc zl _ (CZ.out _ HWH.out).2.2 (by have := HZL.out; omega)).mono ?_
              rintro e w5 ⟨fa, fn, fc, rfl, it5, b5⟩
              have IT5 := Lib.hid (it5.mono hHeld.size)
              have B5 : Hid (Below wr.heap.size wr w5) := thence hHeld b5 (Nat.le_refl _)
              clear it5 b5
              go_wp2_with fail
              refine hKq.out _ _ (B5.out) (fun hHeld => ?_)
              clear hKq Kq
              (try simp only [Act.put, List.setIfInBounds_toArray, List.set_cons_zero, List.set_cons_succ])
              refine PX.wpAnyY_take (i := 21) (oi := ?_) (v := ?_) ?_ (by kernel_rfl) (by kernel_rfl) (by kernel_rfl) (by kernel_rfl) (by kernel_rfl) (fun _ _ _ h => h) (Or.inl ⟨?_, ?_⟩) (by assumption) ?_
              rotate_left 2
              · simp only [List.getElem?_toArray, List.getElem?_cons_succ, List.getElem?_cons_zero]; rfl
              · rfl
              · intro w hSw; (try dsimp only at hSw); go_simp <;> with_reducible rfl
              (try simp only [Act.put, List.setIfInBounds_toArray, List.set_cons_zero, List.set_cons_succ])
              refine PX.wpAnyY_free (i := 22) (o := ?_) (by kernel_rfl) (by kernel_rfl) ?_ (fun Kq hKq => ?_)
              rotate_left
              · simp only [List.getElem?_toArray, List.getElem?_cons_succ, List.getElem?_cons_zero]; rfl
              have k0 := (GH.out.here B5.out).dcells HPH.out (j := 0) Nat.one_pos
              obtain ⟨k0, f0⟩ : w5.cell? ⟨g, p, none⟩ = some (H.getD p Hd.nil).val ∧ w5.frozen? ⟨g, p, none⟩ = false := by
                rw [show p * (kHdU w.heap.size w wa.heap.size).m + 0 = p from Nat.mul_one p] at k0
                exact k0
              go_simp
              refine hKq.out _ _ ?_
              clear hKq Kq
              (try simp only [Act.put, List.setIfInBounds_toArray, List.set_cons_zero, List.set_cons_succ])
              refine PX.wpAnyY_done (by kernel_rfl) ?_ _
              refine NoPanic.normal ?_
              have put := Lib.hid ((GH.out.here B5.out).put1 rfl HPH.out (x := ⟨fa, fn, fc, DK.fl zl⟩) (u := .slice fa fn fc) rfl (lo := wr.heap.size) (hi := w5.heap.size) (Nat.le_refl _) (hdU_new IT5.out (by have := WBi.out.size; omega)) (.inl hgwr))
              have BX8 : Hid (Bx (w5.setCell ⟨g, p, none⟩ (.slice fa fn fc)) wa.heap.size [.slice (some ⟨g, 0, none⟩) xm gc, .slice none 0 0, .bool dd]) := (BXi.out.here B5.out).other ⟨g, p, none⟩ (by have := hg1.out; have := ALD.out.size; have := hnb; show g ≠ wa.heap.size; omega) _
              have B8 : Hid (Below wa.heap.size wa (w5.setCell ⟨g, p, none⟩ (.slice fa fn fc))) := (thence WBi.out B5.out (Nat.le_refl _)).setCell (p := ⟨g, p, none⟩) HGA.out.1 _
              have hLY : lists (H.set p ⟨fa, fn, fc, DK.fl zl⟩) = DK.lay D.bs ((keptW D.ws (ks.drop n0) (j + 1)).map DK.fw) := by
                rw [HN2.out, List.map_append, lists_set, HLY.out]
                show _ = DK.lay D.bs (_ ++ [((p : Int), DK.fl zl)])
                rw [lay_snoc]
                rfl
              have HLY2 := Lib.hid hLY
              have HL2 : Hid ((H.set p ⟨fa, fn, fc, DK.fl zl⟩).length = xm) := by show _ = _; rw [List.length_set]; exact HHL2.out
              clear hLY
              go_wp2_with fail
              go_roundw
              case rel => exact ⟨j + 1, H.set p ⟨fa, fn, fc, DK.fl zl⟩, by omega, by go_num, by rw [HNJ.out]; go_num, HL2.out, HLY2.out, put.out, BX8.out, B8.out⟩
              case measure => simp [intOf]; omega
          · have e : ks.getD nj false = false := by
              have : ks.length ≤ nj := by rw [← Hkl.out]; omega
              simp [List.getD, List.getElem?_eq_none this]
            rw [e] at hnx
            have HN2 : Hid (keptW D.ws (ks.drop n0) (j + 1) = keptW D.ws (ks.drop n0) j) := by show _ = _; rw [hnx]; rfl
            have inl : ¬ (nj : Int) < (kl : Int) := by omega
            clear hnx e hcz
            go_wp2_with fail
            go_roundw
            case rel => exact ⟨j + 1, H, by omega, by go_num, by rw [HNJ.out]; go_num, HHL2.out, by rw [HN2.out]; exact HLY.out, GH.out, BXi.out, WBi.out⟩
            case measure => simp [intOf]; omega
        · have hjx : j = xn' := by omega
          have hD' : lists H = (AK.rcut D ((ks.drop n0).take D.ws.length)).bs := by
            rw [HLY.out, hjx, HXN'.out, keptW_all]; rfl
          have dnu : dnU w.heap.size w wa.heap.size wr.heap.size wr ⟨some ⟨g, 0, none⟩, xm, gc, none, 0, 0, AK.rcut D ((ks.drop n0).take D.ws.length)⟩ := dnU_of GH.out hD' rfl
          obtain ⟨v8, w8, r8, G8, b8⟩ := GrowK.step (typed_dnU w.heap.size w) GM.out WB.out.size (by omega) WBi.out (x := ⟨some ⟨g, 0, none⟩, xm, gc, none, 0, 0, AK.rcut D ((ks.drop n0).take D.ws.length)⟩) dnu (Nat.le_refl _) (Nat.le_refl _)
          obtain ⟨ra8, rc8, rfl, -⟩ := G8.rg
          have hlen8 : (M ++ [(⟨some ⟨g, 0, none⟩, xm, gc, none, 0, 0, AK.rcut D ((ks.drop n0).take D.ws.length)⟩ : Dn)]).length = M.length + 1 := by simp
          have R8 : Hid ((Builtin.append_ #[22, 22] 22 #[.slice ra M.length rc, .slice (some ⟨wr.heap.size, 0, none⟩) 1 1]).run Try.prog (wr.alloc (.cells #[.slice (some ⟨g, 0, none⟩) xm gc, .slice none 0 0, .bool dd] 37)) = .ok (.slice ra8 (M.length + 1) rc8) w8) := by
            rw [hlen8] at r8
            have e : (kDnU w.heap.size w).cells (⟨some ⟨g, 0, none⟩, xm, gc, none, 0, 0, AK.rcut D ((ks.drop n0).take D.ws.length)⟩ : Dn) = [.slice (some ⟨g, 0, none⟩) xm gc, .slice none 0 0, .bool dd] := by rw [← HDD.out]; rfl
            rw [e] at r8; exact r8
          have hdev : devs (M ++ [(⟨some ⟨g, 0, none⟩, xm, gc, none, 0, 0, AK.rcut D ((ks.drop n0).take D.ws.length)⟩ : Dn)]) = AK.cuts AK.rcut ((devs L).take (M.length + 1)) ks := by
            have e1 : (devs L).take (M.length + 1) = (devs L).take M.length ++ [D] := by rw [List.take_succ_eq_append_getElem HKD.out, ← HED.out]; simp [List.getD, HKD.out]
            rw [devs_append, e1, cuts_snoc, HD.out, HN0.out]
            rfl
          have G8' := Lib.hid G8
          have B8 := Lib.hid ((thence WB.out WBi.out (Nat.le_refl _)).trans (b8.mono (Nat.le_refl _)))
          have HDV := Lib.hid hdev
          have HL8 := Lib.hid hlen8
          have HJX := Lib.hid hjx
          have ijx : ¬ (j : Int) < (xn' : Int) := by omega
          obtain ⟨q0, q1, q2⟩ := BXi.out.three
          clear hD' dnu r8 G8 b8 hdev hlen8 hjx hjl
          go_wp2_with (at_builtin; refine wpList_append_run rfl _ _ _ _ rfl R8.out ?_)
          go_roundw
          case rel => exact ⟨_, ra8, rc8, by rw [HL8.out]; omega, by rw [HL8.out]; go_num, by rw [HL8.out], by rw [HL8.out, HMN.out, HJX.out, HXN'.out]; go_num, by rw [HL8.out]; exact HDV.out, G8'.out, B8.out⟩
          case measure => simp [intOf]; omega
    · have hkl : M.length = dn := by omega
      obtain ⟨ra2, rc2, ee, rg⟩ := GM.out.rg
      injection ee with ee1 ee2 ee3
      subst ee1 ee3
      have rgf : Rg kDn 0 wr.heap.size wr ra M.length rc M := ⟨rg.long, rg.fits, rg.small, rg.nil, rg.cells, fun x hx => by
        have h1 : dnU w.heap.size w 0 wr.heap.size wr x := rg.each x hx
        have := h1 wr (fun _ _ _ => rfl) (.ofBelow WB.out (Nat.le_refl _))
        exact DevI.mono this (Nat.le_refl _) (by have := WB.out.size; omega)⟩
      have RG := Lib.hid rgf
      have hfin : devs M = AK.cuts AK.rcut (devs L) ks := by
        rw [HD.out, List.take_of_length_le (by rw [devs_length, ← Hlen.out]; omega)]
      have HF := Lib.hid hfin
      clear rg rgf hfin hkl
      have i1 : ¬ (M.length : Int) < (dn : Int) := by omega
      clear hlt
      go_wp2_with fail
      go_ret
      exact ⟨ra, _, rc, M, rfl, RG.out, HF.out, WB.out⟩
end Go.Proofs.Ytnhfkfihlkbkfaa.PW
