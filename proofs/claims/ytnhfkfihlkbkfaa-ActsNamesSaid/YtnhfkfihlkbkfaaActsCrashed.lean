/-
  Contract of layer 5's 'crashed'.
-/
import Derived.Test.YtnhfkfihlkbkfaaActsOwn
import Derived.Test.YtnhfkfihlkbkfaaActsMath
import Derived.Test.YtnhfkfihlkbkfaaDiskFlush
import Derived.Test.YtnhfkfihlkbkfaaDiskSpoil
import Derived.Test.YtnhfkfihlkbkfaaHoist
namespace Go.Proofs.Ytnhfkfihlkbkfaa.PW
open Go.RowKit
open DK (Dv)
set_option linter.unusedVariables false
set_option linter.unusedSimpArgs false
set_option maxRecDepth 100000

theorem Touch.later {lo hi : Nat} {w w' : World} (h : Touch lo hi w w') {p : Addr} (h1 : w.heap.size ≤ p.block) (v : Value) : Touch lo hi w (w'.setCell p v) :=
  ⟨h.os, h.tape, h.output, by simp [World.setCell]; exact h.size, fun i hi' hne => by
    rw [Below.heap_setCell _ _ _ _ (by omega)]; exact h.block i hi' hne⟩
/-- The writes of the first k that are marked. -/
def keptK (K : List Wr) (ks : List Bool) (k : Nat) : List Wr := (((K.zip ks).take k).filter (·.2)).map (·.1)
theorem keptK_next {K : List Wr} {ks : List Bool} {k : Nat} (h1 : k < K.length) (h2 : k < ks.length) : keptK K ks (k + 1) = if ks.getD k false then keptK K ks k ++ [K.getD k Wr.nil] else keptK K ks k := by
  have hz : k < (K.zip ks).length := by rw [List.length_zip]; omega
  unfold keptK
  rw [List.take_succ_eq_append_getElem hz, List.filter_append, List.map_append]
  have e2 : (K.zip ks)[k] = (K.getD k Wr.nil, ks.getD k false) := by simp [List.getD, h1, h2]
  rw [e2]
  cases ks.getD k false <;> simp
theorem keptK_mem {K : List Wr} {ks : List Bool} {k : Nat} {y : Wr} (h : y ∈ keptK K ks k) : y ∈ K := by
  unfold keptK at h
  obtain ⟨⟨a, b⟩, h1, rfl⟩ := List.mem_map.1 h
  exact (List.of_mem_zip (List.mem_of_mem_take (List.mem_filter.1 h1).1)).1
theorem keptK_all {K : List Wr} {ks : List Bool} {D : Dv} (hK : wlist K = D.ws) : wlist (keptK K ks ks.length) = AK.kept D.ws ks := by
  unfold keptK AK.kept
  rw [← hK, List.take_of_length_le (by rw [List.length_zip]; omega)]
  unfold wlist
  rw [List.zip_map_left, List.filter_map, List.map_map, List.map_map]
  rfl
theorem layH_snoc (H : List Hd) (K : List Wr) (y : Wr) : layH H (K ++ [y]) = (layH H K).set y.n.toNat y.h := by
  unfold layH; rw [List.foldl_append]; rfl

set_option maxHeartbeats 2000000 in
theorem crashed_any (lo hi : Nat) (x : Dn) (ma : Option Addr) (ml mc : Nat) (ks : List Bool) (w : World) (hx : OwnI lo hi w x) (hh : hi ≤ w.heap.size) (hlo : lo ≤ w.heap.size) (hm : DK.may x.D = true) (hk : Rg kBool 0 lo w ma ml mc ks) (hl : ks.length ≤ x.D.ws.length) :
    Calls Try.prog 46 #[x.val, .slice ma ml mc] w fun e w' => e = .returned (.agg #[.slice x.a x.n x.c, .slice none 0 0, .bool x.D.dead]) ∧ OwnI lo hi w' ⟨x.a, x.n, x.c, none, 0, 0, AK.cut x.D ks⟩ ∧ Touch lo hi w w' := by
  obtain ⟨a, n, c, a', n', c', D⟩ := x
  show Calls Try.prog 46 #[.agg #[.slice a n c, .slice a' n' c', .bool D.dead], .slice ma ml mc] w _
  have hm : DK.may D = true := hm
  have hl : ks.length ≤ D.ws.length := hl
  obtain ⟨H, K, pa, hH, hK, av⟩ := hx
  have pa : Parts lo w (.slice a n c) (.slice a' n' c') H K := pa
  have hH : lists H = D.bs := hH
  have hK : wlist K = D.ws := hK
  have av : ∀ g, hi ≤ g → Avoid g (.slice a n c) (.slice a' n' c') H K := av
  have hy1 : n = H.length := by obtain ⟨_, _, e, _⟩ := pa.bl.rds; injection e
  have hy2 : n' = K.length := by obtain ⟨_, _, e, _⟩ := pa.wa.rws; injection e
  have hws : ∀ p ∈ D.ws, 0 ≤ p.1 ∧ p.1 < (D.bs.length : Int) := fun p hp => by
    have := (DK.may_iff.1 hm).2.2.2.2.2 p hp
    unfold DK.okW at this
    rw [Bool.and_eq_true] at this
    exact DK.has_iff.1 this.1
  have hml := hk.long
  have hw24 := (DK.may_iff.1 hm).2.2.1
  have hKl : K.length = D.ws.length := by rw [← hK, wlist_length]
  have hb2 : Below w.heap.size w ((w.alloc (.cells #[.slice a n c, .slice a' n' c', .bool D.dead] 37)).alloc (.cells #[.slice none 0 0, .slice none 0 0, .bool false] 37)) := ((Below.refl _ _).alloc (Nat.le_refl _) _).alloc (by simp) _
  have bT := (Bx.new w [.slice a n c, .slice a' n' c', .bool D.dead] 37).alloc (.cells #[.slice none 0 0, .slice none 0 0, .bool false] 37)
  have bR := Bx.new (w.alloc (.cells #[.slice a n c, .slice a' n' c', .bool D.dead] 37)) [.slice none 0 0, .slice none 0 0, .bool false] 37
  simp only [World.size_alloc] at bR
  have PA := Lib.hid (pa.here hb2)
  have BT := Lib.hid bT
  have BR := Lib.hid bR
  have HB2 := Lib.hid hb2
  have HHl := Lib.hid hH
  have HKl := Lib.hid hK
  have HY1 := Lib.hid hy1
  have HY2 := Lib.hid hy2
  have HM := Lib.hid hws
  have AV := Lib.hid av
  have HVB : Hid (∀ e, (Value.slice a n c).ownBlock = some e → lo ≤ e ∧ e < hi) := fun e he => ⟨(pa.bl.lt e he).1, by
    rcases Nat.lt_or_ge e hi with h | h
    · exact h
    · exact absurd he (av e h).b⟩
  have HMK := Lib.hid (hk.mono (Nat.le_refl _) hlo)
  have HMB : Hid (∀ mb moff, ma = some ⟨mb, moff, none⟩ → 0 < ks.length → mb < lo) := fun mb moff e h0 => by
    obtain ⟨b', o', e', _, hb⟩ := hk.addr h0
    rw [e] at e'; cases e'; exact hb
  have HML := Lib.hid hml
  have hks : ks.length ≤ K.length := by omega
  have HKS := Lib.hid hks
  have hml24 : ml ≤ 1024 := by omega
  have hn24 : n' ≤ 1024 := by omega
  clear pa hH hK av hy1 hy2 hws hm hl hk hml hw24 hKl hb2 bT bR hks
  obtain ⟨dd, hdd⟩ : ∃ dd, dd = D.dead := ⟨_, rfl⟩
  have HDD := Lib.hid hdd
  rw [← hdd] at PA BT BR HB2
  rw [← hdd]
  clear hdd
  go_enter Try.func46, Try.ntmps46
  go_wp2_with fail
  generalize (w.alloc (.cells #[.slice a n c, .slice a' n' c', .bool dd] 37)).alloc (.cells #[.slice none 0 0, .slice none 0 0, .bool false] 37) = W3 at *
  go_loopw [9] (fun i wr => ∃ k : Nat, k ≤ ml ∧ i = .int .i64 k ∧ Hid (W3.grownBy wr (Value.slice a n c).ownBlock) ∧ Hid (Parts lo wr (.slice a n c) (.slice a' n' c') (layH H (keptK K ks k)) K)) (fun i _ => ml - (intOf i).toNat)
  case atStart => exact ⟨0, by omega, rfl, World.grownBy.refl _ _, PA.out⟩
  case round =>
    obtain ⟨k, hk, rfl, GB, PK⟩ := hrel
    have nT : (Value.slice a n c).ownBlock ≠ some w.heap.size := fun e => by have := (HVB.out _ e).2; omega
    have nR : (Value.slice a n c).ownBlock ≠ some (w.heap.size + 1) := fun e => by have := (HVB.out _ e).2; omega
    have bT := BT.out.grown GB.out nT
    have BTr := Lib.hid bT
    obtain ⟨t0, t1, t2⟩ := bT.three
    by_cases hlt : k < ml
    · have hkS : k < ks.length := by rw [← HML.out]; exact hlt
      have hkK : k < K.length := by have := HKS.out; omega
      obtain ⟨mb, moff, em, _, hmb⟩ := HMK.out.addr (show 0 < ks.length by omega)
      have hmlo := HMB.out mb moff em (by omega)
      subst em
      have hmark : wr.cell? ⟨mb, moff + k, none⟩ = some (.bool (ks.getD k false)) := by
        have h1 := (HMK.out.here HB2.out).mark hkS
        rw [World.grownBy.cell_far GB.out ⟨mb, moff + k, none⟩ (by show mb < W3.heap.size; have := HB2.out.size; omega) (fun e => by have h2 : lo ≤ mb := (HVB.out _ e.symm).1; omega)]
        exact h1
      have hnx := keptK_next hkK hkS
      have hkn : k < n' := by rw [HY2.out]; exact hkK
      have i1 : (k : Int) < (ml : Int) := by omega
      have i2 : (k : Int) < (n' : Int) := by omega
      cases hb : ks.getD k false with
      | false =>
        rw [hb] at hmark hnx
        have hnx2 : keptK K ks (k + 1) = keptK K ks k := by rw [hnx]; rfl
        have HNX := Lib.hid hnx2
        clear hnx hnx2 hb bT
        go_wp2_with fail
        go_roundw
        case rel => exact ⟨k + 1, by omega, by go_num, GB.out, by show Parts _ _ _ _ _ _; rw [HNX.out]; exact PK.out⟩
        case measure => simp [intOf]; omega
      | true =>
        rw [hb] at hmark hnx
        obtain ⟨hb0, hb1⟩ : 0 ≤ (K.getD k Wr.nil).n ∧ (K.getD k Wr.nil).n < (n : Int) := by
          have := HM.out (D.ws.getD k (0, [])) (mem_getD (by rw [← HKl.out, wlist_length]; exact hkK))
          rw [← HKl.out, wlist_getD, ← HHl.out, lists_length, ← HY1.out] at this
          exact this
        have hmem : K.getD k Wr.nil ∈ K := mem_getD hkK
        have IT := PK.out.wa.each _ hmem
        have hap1 : ∀ b, (K.getD k Wr.nil).h.a = some b → (K.getD k Wr.nil).h.l ≠ [] → (Value.slice a n c).ownBlock ≠ some b.block := PK.out.cr.right _ (List.mem_map.2 ⟨_, hmem, rfl⟩)
        have hap2 : ∀ b, (K.getD k Wr.nil).h.a = some b → (K.getD k Wr.nil).h.l ≠ [] → (Value.slice a' n' c').ownBlock ≠ some b.block := PK.out.wa.apart _ (List.mem_map.2 ⟨_, hmem, rfl⟩)
        have LT : layH H (keptK K ks (k + 1)) = (layH H (keptK K ks k)).set (K.getD k Wr.nil).n.toNat (K.getD k Wr.nil).h := by rw [hnx]; exact layH_snoc _ _ _
        have hH0 : (layH H (keptK K ks k)).length = n := by rw [layH_length, ← HY1.out]
        obtain ⟨gw, cpw, hgw, _, hgw2, _, _⟩ := PK.out.wa.own.form (by omega)
        obtain ⟨gv, cp, hgv, hgv1, hgv2, _, _⟩ := PK.out.bl.own.form (by rw [hH0]; omega)
        obtain ⟨rfl, rfl⟩ : a' = some ⟨gw, 0, none⟩ ∧ c' = cpw := by injection hgw with p q r; exact ⟨p, r⟩
        obtain ⟨rfl, rfl⟩ : a = some ⟨gv, 0, none⟩ ∧ c = cp := by injection hgv with p q r; exact ⟨p, r⟩
        clear hgw hgv
        obtain ⟨cj0, cj1⟩ := PK.out.wa.own.cells HY2.out k hkK
        obtain ⟨p, hp⟩ := Int.eq_ofNat_of_zero_le hb0
        have hpH : p < (layH H (keptK K ks k)).length := by rw [hH0]; omega
        have hcm := PK.out.bl.own.cell hH0.symm p hpH
        have hfm := PK.out.bl.own.frozen hH0.symm p
        have PN := Lib.hid (PK.out.setBlock hH0.symm p (K.getD k Wr.nil).h IT (fun b hb hl e => hap1 b hb hl (by rw [e]; rfl)) hap2)
        have GN : Hid (W3.grownBy (wr.setCell ⟨gv, p, none⟩ (K.getD k Wr.nil).h.val) (some gv)) := grownBy_setCell GB.out p _
        have hpt : (K.getD k Wr.nil).n.toNat = p := by rw [hp]; rfl
        rw [hpt] at LT
        rw [← LT] at PN
        generalize (layH H (keptK K ks k)).getD p Hd.nil = oh at *
        obtain ⟨oa, on, oc, ol⟩ := oh
        have hcm' : wr.cell? ⟨gv, p, none⟩ = some (.slice oa on oc) := hcm
        rw [hp] at cj0 hb1
        generalize (K.getD k Wr.nil).h = y at *
        obtain ⟨xa, xlen, xcap, xl⟩ := y
        have cj1' : wr.cell? ⟨gw, k * 2 + 1, none⟩ = some (.slice xa xlen xcap) := cj1
        have PN' : Hid (Parts lo (wr.setCell ⟨gv, p, none⟩ (.slice xa xlen xcap)) (.slice (some ⟨gv, 0, none⟩) n c) (.slice (some ⟨gw, 0, none⟩) n' c') (layH H (keptK K ks (k + 1))) K) := PN.out
        have GN' : Hid (W3.grownBy (wr.setCell ⟨gv, p, none⟩ (.slice xa xlen xcap)) (some gv)) := GN.out
        have hb1' : (p : Int) < (n : Int) := hb1
        have HPR : Hid (∀ w', Below wr.heap.size wr w' → (w'.cell? ⟨w.heap.size, 0, none⟩ = some (.slice (some ⟨gv, 0, none⟩) n c) ∧ w'.cell? ⟨w.heap.size, 1, none⟩ = some (.slice (some ⟨gw, 0, none⟩) n' c')) ∧ w'.cell? ⟨gw, k * 2, none⟩ = some (.int .i64 (p : Int)) ∧ w'.cell? ⟨gw, k * 2 + 1, none⟩ = some (.slice xa xlen xcap)) := fun w' h => by
          have h3 := (BTr.out.here h).three
          exact ⟨⟨h3.1, h3.2.1⟩, by rw [h.cell (p := ⟨gw, k * 2, none⟩) hgw2]; exact cj0, by rw [h.cell (p := ⟨gw, k * 2 + 1, none⟩) hgw2]; exact cj1'⟩
        have Hk := Lib.hid hk
        clear hcm cj0 cj1 cj1' hp hpt hmem IT hap1 hap2 LT hH0 hkK PN GN hpH hb0 bT t0 t1 t2 hgv1 hnx hb hk
        go_wp2_with fail
        refine wp_region_noPanic ?_
        refine PX.wp_region_y (fun w' => Below wr.heap.size wr w') [15] (by kernel_rfl) (Below.refl _ _).drew (fun hHeld => ?_)
        refine PX.wpAnyY_take (i := 0) (oi := ?_) (v := ?_) ?_ (by kernel_rfl) (by kernel_rfl) (by kernel_rfl) (by kernel_rfl) (by kernel_rfl) (fun _ _ _ h => h) (Or.inl ⟨?_, ?_⟩) (by assumption) ?_
        rotate_left 2
        · simp only [List.getElem?_toArray, List.getElem?_cons_succ, List.getElem?_cons_zero]; rfl
        · rfl
        · intro w hSw; (try dsimp only at hSw); go_simp <;> with_reducible rfl
        (try simp only [Act.put, List.setIfInBounds_toArray, List.set_cons_zero, List.set_cons_succ])
        refine PX.wpAnyY_take (i := 1) (oi := ?_) (v := ?_) ?_ (by kernel_rfl) (by kernel_rfl) (by kernel_rfl) (by kernel_rfl) (by kernel_rfl) (fun _ _ _ h => h) (Or.inl ⟨?_, ?_⟩) (by assumption) ?_
        rotate_left 2
        · simp only [List.getElem?_toArray, List.getElem?_cons_succ, List.getElem?_cons_zero]; rfl
        · rfl
        · intro w hSw; (try dsimp only at hSw); obtain ⟨⟨p0, p1⟩, p2, p3⟩ := HPR.out _ hSw; go_simp <;> with_reducible rfl
        (try simp only [Act.put, List.setIfInBounds_toArray, List.set_cons_zero, List.set_cons_succ])
        refine PX.wpAnyY_take (i := 2) (oi := ?_) (v := ?_) ?_ (by kernel_rfl) (by kernel_rfl) (by kernel_rfl) (by kernel_rfl) (by kernel_rfl) (fun _ _ _ h => h) (Or.inl ⟨?_, ?_⟩) (by assumption) ?_
        rotate_left 2
        · simp only [List.getElem?_toArray, List.getElem?_cons_succ, List.getElem?_cons_zero]; rfl
        · rfl
        · intro w hSw; (try dsimp only at hSw); go_simp <;> with_reducible rfl
        (try simp only [Act.put, List.setIfInBounds_toArray, List.set_cons_zero, List.set_cons_succ])
        refine PX.wpAnyY_take (i := 3) (oi := ?_) (v := ?_) ?_ (by kernel_rfl) (by kernel_rfl) (by kernel_rfl) (by kernel_rfl) (by kernel_rfl) (fun _ _ _ h => h) (Or.inl ⟨?_, ?_⟩) (by assumption) ?_
        rotate_left 2
        · simp only [List.getElem?_toArray, List.getElem?_cons_succ, List.getElem?_cons_zero]; rfl
        · rfl
        · intro w hSw; (try dsimp only at hSw); obtain ⟨⟨p0, p1⟩, p2, p3⟩ := HPR.out _ hSw; go_simp <;> with_reducible rfl
        (try simp only [Act.put, List.setIfInBounds_toArray, List.set_cons_zero, List.set_cons_succ])
        refine PX.wpAnyY_take (i := 4) (oi := ?_) (v := ?_) ?_ (by kernel_rfl) (by kernel_rfl) (by kernel_rfl) (by kernel_rfl) (by kernel_rfl) (fun _ _ _ h => h) (Or.inl ⟨?_, ?_⟩) (by assumption) ?_
        rotate_left 2
        · simp only [List.getElem?_toArray, List.getElem?_cons_succ, List.getElem?_cons_zero]; rfl
        · rfl
        · intro w hSw; (try dsimp only at hSw); go_simp <;> with_reducible rfl
        (try simp only [Act.put, List.setIfInBounds_toArray, List.set_cons_zero, List.set_cons_succ])
        refine PX.wpAnyY_take (i := 5) (oi := ?_) (v := ?_) ?_ (by kernel_rfl) (by kernel_rfl) (by kernel_rfl) (by kernel_rfl) (by kernel_rfl) (fun _ _ _ h => h) (Or.inl ⟨?_, ?_⟩) (by assumption) ?_
        rotate_left 2
        · simp only [List.getElem?_toArray, List.getElem?_cons_succ, List.getElem?_cons_zero]; rfl
        · rfl
        · intro w hSw; (try dsimp only at hSw); go_simp <;> with_reducible rfl
        (try simp only [Act.put, List.setIfInBounds_toArray, List.set_cons_zero, List.set_cons_succ])
        refine PX.wpAnyY_take (i := 6) (oi := ?_) (v := ?_) ?_ (by kernel_rfl) (by kernel_rfl) (by kernel_rfl) (by kernel_rfl) (by kernel_rfl) (fun _ _ _ h => h) (Or.inl ⟨?_, ?_⟩) (by assumption) ?_
        rotate_left 2
        · simp only [List.getElem?_toArray, List.getElem?_cons_succ, List.getElem?_cons_zero]; rfl
        · rfl
        · intro w hSw; (try dsimp only at hSw); go_simp <;> with_reducible rfl
        (try simp only [Act.put, List.setIfInBounds_toArray, List.set_cons_zero, List.set_cons_succ])
        refine PX.wpAnyY_take (i := 7) (oi := ?_) (v := ?_) ?_ (by kernel_rfl) (by kernel_rfl) (by kernel_rfl) (by kernel_rfl) (by kernel_rfl) (fun _ _ _ h => h) (Or.inl ⟨?_, ?_⟩) (by assumption) ?_
        rotate_left 2
        · simp only [List.getElem?_toArray, List.getElem?_cons_succ, List.getElem?_cons_zero]; rfl
        · rfl
        · intro w hSw; (try dsimp only at hSw); obtain ⟨⟨p0, p1⟩, p2, p3⟩ := HPR.out _ hSw; go_simp <;> with_reducible rfl
        (try simp only [Act.put, List.setIfInBounds_toArray, List.set_cons_zero, List.set_cons_succ])
        refine PX.wpAnyY_take (i := 8) (oi := ?_) (v := ?_) ?_ (by kernel_rfl) (by kernel_rfl) (by kernel_rfl) (by kernel_rfl) (by kernel_rfl) (fun _ _ _ h => h) (Or.inl ⟨?_, ?_⟩) (by assumption) ?_
        rotate_left 2
        · simp only [List.getElem?_toArray, List.getElem?_cons_succ, List.getElem?_cons_zero]; rfl
        · rfl
        · intro w hSw; (try dsimp only at hSw); go_simp <;> with_reducible rfl
        (try simp only [Act.put, List.setIfInBounds_toArray, List.set_cons_zero, List.set_cons_succ])
        refine PX.wpAnyY_take (i := 9) (oi := ?_) (v := ?_) ?_ (by kernel_rfl) (by kernel_rfl) (by kernel_rfl) (by kernel_rfl) (by kernel_rfl) (fun _ _ _ h => h) (Or.inl ⟨?_, ?_⟩) (by assumption) ?_
        rotate_left 2
        · simp only [List.getElem?_toArray, List.getElem?_cons_succ, List.getElem?_cons_zero]; rfl
        · rfl
        · intro w hSw; (try dsimp only at hSw); obtain ⟨⟨p0, p1⟩, p2, p3⟩ := HPR.out _ hSw; go_simp <;> with_reducible rfl
        (try simp only [Act.put, List.setIfInBounds_toArray, List.set_cons_zero, List.set_cons_succ])
        refine PX.wpAnyY_take (i := 10) (oi := ?_) (v := ?_) ?_ (by kernel_rfl) (by kernel_rfl) (by kernel_rfl) (by kernel_rfl) (by kernel_rfl) (fun _ _ _ h => h) (Or.inl ⟨?_, ?_⟩) (by assumption) ?_
        rotate_left 2
        · simp only [List.getElem?_toArray, List.getElem?_cons_succ, List.getElem?_cons_zero]; rfl
        · rfl
        · intro w hSw; (try dsimp only at hSw); go_simp <;> with_reducible rfl
        (try simp only [Act.put, List.setIfInBounds_toArray, List.set_cons_zero, List.set_cons_succ])
        refine PX.wpAnyY_take (i := 11) (oi := ?_) (v := ?_) ?_ (by kernel_rfl) (by kernel_rfl) (by kernel_rfl) (by kernel_rfl) (by kernel_rfl) (fun _ _ _ h => h) (Or.inl ⟨?_, ?_⟩) (by assumption) ?_
        rotate_left 2
        · simp only [List.getElem?_toArray, List.getElem?_cons_succ, List.getElem?_cons_zero]; rfl
        · rfl
        · intro w hSw; (try dsimp only at hSw); go_simp <;> with_reducible rfl
        (try simp only [Act.put, List.setIfInBounds_toArray, List.set_cons_zero, List.set_cons_succ])
        refine PX.wpAnyY_take (i := 12) (oi := ?_) (v := ?_) ?_ (by kernel_rfl) (by kernel_rfl) (by kernel_rfl) (by kernel_rfl) (by kernel_rfl) (fun _ _ _ h => h) (Or.inl ⟨?_, ?_⟩) (by assumption) ?_
        rotate_left 2
        · simp only [List.getElem?_toArray, List.getElem?_cons_succ, List.getElem?_cons_zero]; rfl
        · rfl
        · intro w hSw; (try dsimp only at hSw); go_simp <;> with_reducible rfl
        (try simp only [Act.put, List.setIfInBounds_toArray, List.set_cons_zero, List.set_cons_succ])
        refine PX.wpAnyY_take (i := 13) (oi := ?_) (v := ?_) ?_ (by kernel_rfl) (by kernel_rfl) (by kernel_rfl) (by kernel_rfl) (by kernel_rfl) (fun _ _ _ h => h) (Or.inl ⟨?_, ?_⟩) (by assumption) ?_
        rotate_left 2
        · simp only [List.getElem?_toArray, List.getElem?_cons_succ, List.getElem?_cons_zero]; rfl
        · rfl
        · intro w hSw; (try dsimp only at hSw); obtain ⟨⟨p0, p1⟩, p2, p3⟩ := HPR.out _ hSw; go_simp <;> with_reducible rfl
        (try simp only [Act.put, List.setIfInBounds_toArray, List.set_cons_zero, List.set_cons_succ])
        refine PX.wpAnyY_take (i := 14) (oi := ?_) (v := ?_) ?_ (by kernel_rfl) (by kernel_rfl) (by kernel_rfl) (by kernel_rfl) (by kernel_rfl) (fun _ _ _ h => h) (Or.inl ⟨?_, ?_⟩) (by assumption) ?_
        rotate_left 2
        · simp only [List.getElem?_toArray, List.getElem?_cons_succ, List.getElem?_cons_zero]; rfl
        · rfl
        · intro w hSw; (try dsimp only at hSw); go_simp <;> with_reducible rfl
        (try simp only [Act.put, List.setIfInBounds_toArray, List.set_cons_zero, List.set_cons_succ])
        refine PX.wpAnyY_free (i := 15) (o := ?_) (by kernel_rfl) (by kernel_rfl) ?_ (fun Kq hKq => ?_)
        rotate_left
        · simp only [List.getElem?_toArray, List.getElem?_cons_succ, List.getElem?_cons_zero]; rfl
        go_simp
        refine hKq.out _ _ ?_
        clear hKq Kq
        (try simp only [Act.put, List.setIfInBounds_toArray, List.set_cons_zero, List.set_cons_succ])
        refine PX.wpAnyY_done (by kernel_rfl) ?_ _
        refine NoPanic.normal ?_
        go_wp2_with fail
        go_roundw
        case rel => exact ⟨k + 1, by omega, by go_num, grownBy_drew GN'.out, PN'.out.here (Below.refl _ _).drew⟩
        case measure => simp [intOf]; omega
    · obtain rfl : k = ml := by omega
      have hall : wlist (keptK K ks k) = AK.kept D.ws ks := by rw [HML.out]; exact keptK_all HKl.out
      have pk := PK.out
      have PC := pk.calm
      have avc : ∀ g, hi ≤ g → Avoid g (.slice a n c) (.slice none 0 0) (layH H (keptK K ks k)) [] := fun g hg => ⟨(AV.out g hg).b, (fun e => by cases e), fun z hz x hx hl => (by
        rcases layH_mem _ H z hz with h | ⟨y, hy, rfl⟩
        · exact (AV.out g hg).h z h x hx hl
        · exact (AV.out g hg).k y (keptK_mem hy) x hx hl), (fun _ h => nomatch h)⟩
      have BR4 := BR.out.grown GB.out nR
      have tch : Touch lo hi w wr := by
        have g := GB.out
        exact ⟨g.os.trans HB2.out.os, g.tape.trans HB2.out.tape, g.output.trans HB2.out.output, Nat.le_trans HB2.out.size g.size, fun i hi' hne => by
          rw [g.block i (Nat.lt_of_lt_of_le hi' HB2.out.size) (fun e => by have := HVB.out _ e.symm; omega)]
          exact HB2.out.block i hi'⟩
      have BT9 : Hid (Bx (wr.setCell ⟨w.heap.size, 1, none⟩ (.slice none 0 0)) w.heap.size [.slice a n c, .slice none 0 0, .bool dd]) := bT.set 1 _
      have BR9 : Hid (Bx (wr.setCell ⟨w.heap.size, 1, none⟩ (.slice none 0 0)) (w.heap.size + 1) [.slice none 0 0, .slice none 0 0, .bool false]) := BR4.other _ (by show w.heap.size ≠ w.heap.size + 1; omega) _
      have PA9 : Hid (Parts lo (wr.setCell ⟨w.heap.size, 1, none⟩ (.slice none 0 0)) (.slice a n c) (.slice none 0 0) (layH H (keptK K ks k)) []) := PC.store ⟨w.heap.size, 1, none⟩ (avc _ hh) _
      obtain ⟨q0, q1, q2⟩ := BR4.three
      have f0 := BR4.frozen 0
      have f1 := BR4.frozen 1
      have f2 := BR4.frozen 2
      have tf := bT.frozen 1
      have tlt := bT.lt
      have z := ((BR9.out.set 0 (.slice a n c)).set 1 (.slice none 0 0)).set 2 (.bool dd)
      have PA10 : Parts lo _ (.slice a n c) (.slice none 0 0) (layH H (keptK K ks k)) [] := ((PA9.out.store ⟨w.heap.size + 1, 0, none⟩ (avc _ (by show hi ≤ w.heap.size + 1; omega)) (.slice a n c)).store ⟨w.heap.size + 1, 1, none⟩ (avc _ (by show hi ≤ w.heap.size + 1; omega)) (.slice none 0 0)).store ⟨w.heap.size + 1, 2, none⟩ (avc _ (by show hi ≤ w.heap.size + 1; omega)) (.bool dd)
      have OI : Hid (OwnI lo hi ((((wr.setCell ⟨w.heap.size, 1, none⟩ (.slice none 0 0)).setCell ⟨w.heap.size + 1, 0, none⟩ (.slice a n c)).setCell ⟨w.heap.size + 1, 1, none⟩ (.slice none 0 0)).setCell ⟨w.heap.size + 1, 2, none⟩ (.bool dd)) ⟨a, n, c, none, 0, 0, AK.cut D ks⟩) :=
        ⟨_, _, PA10, by rw [layH_lists, HHl.out, hall]; rfl, rfl, avc⟩
      have TC : Hid (Touch lo hi w ((((wr.setCell ⟨w.heap.size, 1, none⟩ (.slice none 0 0)).setCell ⟨w.heap.size + 1, 0, none⟩ (.slice a n c)).setCell ⟨w.heap.size + 1, 1, none⟩ (.slice none 0 0)).setCell ⟨w.heap.size + 1, 2, none⟩ (.bool dd))) :=
        (((tch.later (p := ⟨w.heap.size, 1, none⟩) (Nat.le_refl _) _).later (p := ⟨w.heap.size + 1, 0, none⟩) (Nat.le_succ _) _).later (p := ⟨w.heap.size + 1, 1, none⟩) (Nat.le_succ _) _).later (p := ⟨w.heap.size + 1, 2, none⟩) (Nat.le_succ _) _
      obtain ⟨z0, z1, z2⟩ := z.three
      clear hall pk PC avc BR4 bT tch z PA10
      go_wp2_with fail
      exact bodyPost_ret (v := .agg #[.slice a n c, .slice none 0 0, .bool dd]) (by simp [results, Try.results46, go_sem, z0, z1, z2]) rfl ⟨rfl, OI.out, TC.out⟩
end Go.Proofs.Ytnhfkfihlkbkfaa.PW
