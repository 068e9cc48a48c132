/-
  Contracts of layer 4: a device flushed; the program's.
  Contracts of layer 4: a device flushed; the document's own.
-/
import Derived.Test.YtnhfkfihlkbkfaaDiskFua
import Derived.Test.YtnhfkfihlkbkfaaDiskSure
namespace Go.Proofs.Ytnhfkfihlkbkfaa.PW
open Go.RowKit
open DK (Dv)
set_option linter.unusedVariables false
set_option maxRecDepth 100000
set_option linter.unusedSimpArgs false

def flushDev (D : Dv) : Dv := if DK.fcode D = 0 then DK.flushed D else DK.Dv.nil
def layH (H : List Hd) (K : List Wr) : List Hd := K.foldl (fun acc x => acc.set x.n.toNat x.h) H
theorem layH_lists (K : List Wr) : ∀ H, lists (layH H K) = DK.lay (lists H) (wlist K) := by
  induction K with
  | nil => intro H; rfl
  | cons x r ih =>
    intro H
    show lists (layH (H.set x.n.toNat x.h) r) = DK.lay ((lists H).set x.n.toNat x.h.l) (wlist r)
    rw [ih, lists_set]
theorem layH_length (K : List Wr) : ∀ H, (layH H K).length = H.length := by
  induction K with
  | nil => intro H; rfl
  | cons x r ih =>
    intro H
    show (layH (H.set x.n.toNat x.h) r).length = _
    rw [ih, List.length_set]
theorem layH_take (H : List Hd) (K : List Wr) (k : Nat) (hk : k < K.length) : layH H (K.take (k + 1)) = (layH H (K.take k)).set (K.getD k Wr.nil).n.toNat (K.getD k Wr.nil).h := by
  rw [take_snoc' K k hk]
  unfold layH
  rw [List.foldl_append]
  rfl
theorem layH_mem (K : List Wr) : ∀ H z, z ∈ layH H K → z ∈ H ∨ ∃ y ∈ K, z = y.h := by
  induction K with
  | nil => intro H z h; exact .inl h
  | cons x r ih =>
    intro H z h
    rcases ih (H.set x.n.toNat x.h) z h with h | ⟨y, hy, e⟩
    · rcases List.mem_or_eq_of_mem_set h with h | h
      · exact .inl h
      · exact .inr ⟨x, List.mem_cons_self .., h⟩
    · exact .inr ⟨y, List.mem_cons_of_mem _ hy, e⟩

set_option maxRecDepth 100000 in
set_option maxHeartbeats 1000000 in
theorem flush_any (a : Option Addr) (n c : Nat) (a' : Option Addr) (n' c' : Nat) (D : Dv) (w : World) (hr : DevAt w.heap.size w a n c a' n' c' D) (hf : Fit D) :
    Calls Try.prog 39 #[.agg #[.slice a n c, .slice a' n' c', .bool D.dead]] w (NewDev w (flushDev D) (DK.fcode D)) := by
  have hb1 : Below w.heap.size w ((w.alloc (.cells #[.slice a n c, .slice a' n' c', .bool D.dead] 37)).alloc (.cells #[.slice none 0 0, .slice none 0 0, .bool false] 37)) := ((Below.refl _ _).alloc (Nat.le_refl _) _).alloc (by simp) _
  have bD := (Bx.new w [.slice a n c, .slice a' n' c', .bool D.dead] 37).alloc (.cells #[.slice none 0 0, .slice none 0 0, .bool false] 37)
  have bR := Bx.new (w.alloc (.cells #[.slice a n c, .slice a' n' c', .bool D.dead] 37)) [.slice none 0 0, .slice none 0 0, .bool false] 37
  simp only [World.size_alloc] at bR
  have CK := Lib.hid (check_any a n c a' n' c' D _ (hr.here hb1))
  have CT : Hid (∀ w1, Below w.heap.size w w1 → Calls Try.prog 64 #[.agg #[.slice a n c, .slice a' n' c', .bool D.dead]] w1 (TheDev w1 D)) := fun w1 h => twin_any a n c a' n' c' D w1 (hr.here h) hf
  have HB := Lib.hid hb1
  have BD := Lib.hid bD
  have BR := Lib.hid bR
  have Hn := Lib.hid hr.long
  clear hb1 bD bR hr hf
  rcases Bool.eq_false_or_eq_true (DK.may D) with hm | hm
  rotate_left
  · have hk : DK.kcode D = 8 := kcode_no hm
    have hc : DK.fcode D = 8 := by simp [DK.fcode, hm]
    have hd : flushDev D = DK.Dv.nil := by simp [flushDev, hc]
    rw [hc, hd]
    rw [hk] at CK
    clear hk hc hd hm CT Hn
    generalize D.dead = dd at *
    go_enter Try.func39, Try.ntmps39
    go_wp2_with fail
    refine CK.out.mono ?_
    rintro e w1 ⟨rfl, b1⟩
    have bR := BR.out.here b1
    have hB := thence HB.out b1 (Nat.le_refl _)
    obtain ⟨q0, q1, q2⟩ := bR.three
    have f0 := bR.frozen 0
    have f1 := bR.frozen 1
    have f2 := bR.frozen 2
    have FIN := Lib.hid (no_dev_end _ _ _ bR hB (Nat.le_succ _))
    clear hB b1 bR
    go_wp2_with fail
    obtain ⟨z0, z1, z2⟩ := FIN.out.1.three
    exact bodyPost_ret (v := .tuple #[noDev, .int .i64 8]) (by simp [results, Try.results39, go_sem, noDev, z0, z1, z2]) rfl ⟨_, rfl, OwnDev.nil _ _, FIN.out.2⟩
  have hk : DK.kcode D = 0 := kcode_may hm
  rw [hk] at CK
  rcases Bool.eq_false_or_eq_true D.dead with hdd | hdd
  · have hc : DK.fcode D = 40 := by simp [DK.fcode, hm, hdd]
    have hd : flushDev D = DK.Dv.nil := by simp [flushDev, hc]
    rw [hc, hd]
    rw [hdd] at CK HB BD BR ⊢
    clear hk hc hd hm CT Hn hdd
    go_enter Try.func39, Try.ntmps39
    go_wp2_with fail
    refine CK.out.mono ?_
    rintro e w1 ⟨rfl, b1⟩
    have bR := BR.out.here b1
    have hB := thence HB.out b1 (Nat.le_refl _)
    obtain ⟨d0, d1, d2⟩ := (BD.out.here b1).three
    obtain ⟨q0, q1, q2⟩ := bR.three
    have f0 := bR.frozen 0
    have f1 := bR.frozen 1
    have f2 := bR.frozen 2
    have FIN := Lib.hid (no_dev_end _ _ _ bR hB (Nat.le_succ _))
    clear hB b1 bR
    go_wp2_with fail
    obtain ⟨z0, z1, z2⟩ := FIN.out.1.three
    exact bodyPost_ret (v := .tuple #[noDev, .int .i64 40]) (by simp [results, Try.results39, go_sem, noDev, z0, z1, z2]) rfl ⟨_, rfl, OwnDev.nil _ _, FIN.out.2⟩
  have hc : DK.fcode D = 0 := by simp [DK.fcode, hm, hdd]
  have hd : flushDev D = DK.flushed D := by simp [flushDev, hc]
  rw [hc, hd]
  rw [hdd] at CK CT HB BD BR ⊢
  have HD := Lib.hid hdd
  have HM : Hid (∀ p ∈ D.ws, 0 ≤ p.1 ∧ p.1 < (D.bs.length : Int)) := fun p hp => by
    have := (DK.may_iff.1 hm).2.2.2.2.2 p hp
    unfold DK.okW at this
    rw [Bool.and_eq_true] at this
    exact DK.has_iff.1 this.1
  clear hk hc hd hm hdd
  go_enter Try.func39, Try.ntmps39
  go_wp2_with fail
  refine CK.out.mono ?_
  rintro e w1 ⟨rfl, b1⟩
  have bR := BR.out.here b1
  have hB := thence HB.out b1 (Nat.le_refl _)
  obtain ⟨d0, d1, d2⟩ := (BD.out.here b1).three
  have CT1 := Lib.hid (CT.out _ hB)
  have BR1 := Lib.hid bR
  have HB1 := Lib.hid hB
  clear hB b1 bR CK CT
  go_wp2_with fail
  refine CT1.out.mono ?_
  rintro e w2 ⟨v, rfl, od, b2⟩
  obtain ⟨x1, y1, u1, x2, y2, u2, H, K, rfl, pa, hH, hK, hy1, hy2⟩ := od.parts
  rw [HD.out]
  have hys : y2 ≤ 9223372036854775807 := by
    obtain ⟨_, _, hv, hrw⟩ := pa.wa.rws
    have h1 := hrw.small; have h2 := hrw.fits
    unfold maxLen at h1
    rw [hy2]; omega
  have HHl := Lib.hid hH
  have HKl := Lib.hid hK
  have HY1 := Lib.hid hy1
  have HY2 := Lib.hid hy2
  have bR := BR1.out.here b2
  have hB2 := thence HB1.out b2 (Nat.le_refl _)
  have bT := Bx.new w2 [.slice x1 y1 u1, .slice x2 y2 u2, .bool false] 37
  have al : Below w2.heap.size w2 (w2.alloc (.cells [Value.slice x1 y1 u1, .slice x2 y2 u2, .bool false].toArray 37)) := (Below.refl _ _).alloc (Nat.le_refl _) _
  have PA : Hid (Parts w1.heap.size (w2.alloc (.cells [Value.slice x1 y1 u1, .slice x2 y2 u2, .bool false].toArray 37)) (.slice x1 y1 u1) (.slice x2 y2 u2) H K) := pa.here al
  have BT := Lib.hid bT
  have BR2 : Hid (Bx (w2.alloc (.cells [Value.slice x1 y1 u1, .slice x2 y2 u2, .bool false].toArray 37)) (w.heap.size + 1) [.slice none 0 0, .slice none 0 0, .bool false]) := bR.here al
  have HB2 : Hid (Below w.heap.size w (w2.alloc (.cells [Value.slice x1 y1 u1, .slice x2 y2 u2, .bool false].toArray 37))) := thence hB2 al (Nat.le_refl _)
  have HW12 : Hid (w1.heap.size ≤ w2.heap.size) := b2.size
  have AV : Hid (Avoid w2.heap.size (.slice x1 y1 u1) (.slice x2 y2 u2) H K) := pa.avoid (.inr (Nat.le_refl _))
  have HW01 : Hid (w.heap.size + 1 < w1.heap.size) := BR1.out.lt
  have HVB : Hid (∀ e, (Value.slice x1 y1 u1).ownBlock = some e → w1.heap.size ≤ e ∧ e < w2.heap.size) := fun e he => pa.bl.lt e he
  clear bR hB2 bT al pa hH hK hy1 hy2 od b2 CT1 d0 d1 d2
  go_wp2_with fail
  generalize hW3 : w2.alloc (.cells #[.slice x1 y1 u1, .slice x2 y2 u2, .bool false] 37) = W3
  replace PA : Hid (Parts w1.heap.size W3 (.slice x1 y1 u1) (.slice x2 y2 u2) H K) := by rw [← hW3]; exact PA.out
  replace BT : Hid (Bx W3 w2.heap.size [.slice x1 y1 u1, .slice x2 y2 u2, .bool false]) := by rw [← hW3]; exact BT.out
  replace BR2 : Hid (Bx W3 (w.heap.size + 1) [.slice none 0 0, .slice none 0 0, .bool false]) := by rw [← hW3]; exact BR2.out
  replace HB2 : Hid (Below w.heap.size w W3) := by rw [← hW3]; exact HB2.out
  clear hW3
  go_loopw [22] (fun i wr => ∃ k : Nat, k ≤ y2 ∧ i = .int .i64 k ∧ Hid (W3.grownBy wr (Value.slice x1 y1 u1).ownBlock) ∧ Hid (Parts w1.heap.size wr (.slice x1 y1 u1) (.slice x2 y2 u2) (layH H (K.take k)) K)) (fun i _ => y2 - (intOf i).toNat)
  case atStart => exact ⟨0, by omega, rfl, World.grownBy.refl _ _, PA.out⟩
  case round =>
    obtain ⟨k, hk, rfl, GB, PK⟩ := hrel
    have bT := BT.out.grown GB.out (fun e => absurd (HVB.out _ e).2 (Nat.lt_irrefl _))
    obtain ⟨t0, t1, t2⟩ := bT.three
    have tf := bT.frozen 1
    have hlg : w2.heap.size < wr.heap.size := bT.lt
    by_cases hlt : k < y2
    · have hkK : k < K.length := by rw [← HY2.out]; exact hlt
      obtain ⟨hb0, hb1⟩ : 0 ≤ (K.getD k Wr.nil).n ∧ (K.getD k Wr.nil).n < (y1 : Int) := by
        have := HM.out (D.ws.getD k (0, [])) (mem_getD (by rw [← HKl.out, wlist_length]; exact hkK))
        rw [← HKl.out, wlist_getD, ← HHl.out, lists_length, ← HY1.out] at this
        exact this
      have hmem : K.getD k Wr.nil ∈ K := mem_getD hkK
      have IT := PK.out.wa.each _ hmem
      have hap1 : ∀ b, (K.getD k Wr.nil).h.a = some b → (K.getD k Wr.nil).h.l ≠ [] → (Value.slice x1 y1 u1).ownBlock ≠ some b.block := PK.out.cr.right _ (List.mem_map.2 ⟨_, hmem, rfl⟩)
      have hap2 : ∀ b, (K.getD k Wr.nil).h.a = some b → (K.getD k Wr.nil).h.l ≠ [] → (Value.slice x2 y2 u2).ownBlock ≠ some b.block := PK.out.wa.apart _ (List.mem_map.2 ⟨_, hmem, rfl⟩)
      have LT := layH_take H K k hkK
      have hH0 : (layH H (K.take k)).length = y1 := by rw [layH_length, ← HY1.out]
      obtain ⟨gw, cpw, hgw, _, hgw2, _, _⟩ := PK.out.wa.own.form (by rw [← HY2.out]; omega)
      obtain ⟨gv, cp, hgv, hgv1, hgv2, _, _⟩ := PK.out.bl.own.form (by rw [hH0]; omega)
      obtain ⟨rfl, rfl⟩ : x2 = some ⟨gw, 0, none⟩ ∧ u2 = cpw := by injection hgw with p q r; exact ⟨p, r⟩
      obtain ⟨rfl, rfl⟩ : x1 = some ⟨gv, 0, none⟩ ∧ u1 = cp := by injection hgv with p q r; exact ⟨p, r⟩
      clear hgw hgv
      obtain ⟨cj0, cj1⟩ := PK.out.wa.own.cells HY2.out k hkK
      obtain ⟨p, hp⟩ := Int.eq_ofNat_of_zero_le hb0
      have hpH : p < (layH H (K.take k)).length := by rw [hH0]; omega
      have hcm := PK.out.bl.own.cell hH0.symm p hpH
      have hfm := PK.out.bl.own.frozen hH0.symm p
      have PN := Lib.hid (PK.out.setBlock hH0.symm p (K.getD k Wr.nil).h IT (fun b hb hl e => hap1 b hb hl (by rw [e]; rfl)) hap2)
      have GN : Hid (W3.grownBy (wr.setCell ⟨gv, p, none⟩ (K.getD k Wr.nil).h.val) (some gv)) := grownBy_setCell GB.out p _
      have hpt : (K.getD k Wr.nil).n.toNat = p := by rw [hp]; rfl
      rw [hpt] at LT
      rw [← LT] at PN
      generalize (layH H (K.take k)).getD p Hd.nil = oh at *
      obtain ⟨oa, on, oc, ol⟩ := oh
      have hcm' : wr.cell? ⟨gv, p, none⟩ = some (.slice oa on oc) := hcm
      rw [hp] at cj0 hb1
      generalize (K.getD k Wr.nil).h = y at *
      obtain ⟨xa, xlen, xcap, xl⟩ := y
      have cj1' : wr.cell? ⟨gw, k * 2 + 1, none⟩ = some (.slice xa xlen xcap) := cj1
      have PN' : Hid (Parts w1.heap.size (wr.setCell ⟨gv, p, none⟩ (.slice xa xlen xcap)) (.slice (some ⟨gv, 0, none⟩) y1 u1) (.slice (some ⟨gw, 0, none⟩) y2 u2) (layH H (K.take (k + 1))) K) := PN.out
      have GN' : Hid (W3.grownBy (wr.setCell ⟨gv, p, none⟩ (.slice xa xlen xcap)) (some gv)) := GN.out
      have Hlt := Lib.hid hlt
      have i1 : (k : Int) < (y2 : Int) := by omega
      have Hkl := Lib.hid hk
      clear hcm cj1 hp hpt hmem IT hap1 hap2 LT hH0 hkK PN GN hpH hlt hk hb0 bT t0 t1 t2 tf hgv1
      obtain ⟨t0, t1, t2⟩ := (BT.out.grown GB.out (fun e => absurd (HVB.out _ e).2 (Nat.lt_irrefl _))).three
      go_wp2_with fail
      go_roundw
      case rel => exact ⟨k + 1, by have := Hlt.out; omega, by go_num, grownBy_alloc GN'.out _, PN'.out.here ((Below.refl _ _).alloc (Nat.le_refl _) _)⟩
      case measure => have := Hlt.out; simp [intOf]; omega
    · obtain rfl : k = y2 := by omega
      have hall : layH H (K.take k) = layH H K := by rw [List.take_of_length_le (by rw [HY2.out]; exact Nat.le_refl _)]
      have pk := PK.out
      rw [hall] at pk
      have PC := pk.calm
      have AVc : Avoid w2.heap.size (.slice x1 y1 u1) (.slice none 0 0) (layH H K) [] := ⟨AV.out.b, (fun e => by cases e), fun z hz x hx hl => (by
        rcases layH_mem K H z hz with h | ⟨y, hy, rfl⟩
        · exact AV.out.h z h x hx hl
        · exact AV.out.k y hy x hx hl), (fun _ h => nomatch h)⟩
      have hRT : w.heap.size + 1 < w2.heap.size := Nat.lt_of_lt_of_le HW01.out HW12.out
      have BR4 := BR2.out.grown GB.out (fun e => by have h1 := (HVB.out _ e).1; have h2 := HW01.out; omega)
      have HB4 : Below w.heap.size w wr := HB2.out.grown GB.out HB2.out.size (fun e he => by have h1 := (HVB.out _ he).1; have h2 := HW01.out; omega)
      have BT9 : Hid (Bx (wr.setCell ⟨w2.heap.size, 1, none⟩ (.slice none 0 0)) w2.heap.size [.slice x1 y1 u1, .slice none 0 0, .bool false]) := bT.set 1 _
      have BR9 : Hid (Bx (wr.setCell ⟨w2.heap.size, 1, none⟩ (.slice none 0 0)) (w.heap.size + 1) [.slice none 0 0, .slice none 0 0, .bool false]) := BR4.other _ (by show w2.heap.size ≠ w.heap.size + 1; omega) _
      have HB9 : Hid (Below w.heap.size w (wr.setCell ⟨w2.heap.size, 1, none⟩ (.slice none 0 0))) := HB4.setCell (p := ⟨w2.heap.size, 1, none⟩) (by show w.heap.size ≤ w2.heap.size; omega) _
      have PA9 : Hid (Parts w1.heap.size (wr.setCell ⟨w2.heap.size, 1, none⟩ (.slice none 0 0)) (.slice x1 y1 u1) (.slice none 0 0) (layH H K) []) := PC.store ⟨w2.heap.size, 1, none⟩ AVc _
      obtain ⟨q0, q1, q2⟩ := BR4.three
      have f0 := BR4.frozen 0
      have f1 := BR4.frozen 1
      have f2 := BR4.frozen 2
      clear hall pk PC AVc BR4 HB4 bT
      go_wp2_with fail
      have z := ((BR9.out.set 0 (.slice x1 y1 u1)).set 1 (.slice none 0 0)).set 2 (.bool false)
      obtain ⟨z0, z1, z2⟩ := z.three
      have hl : w.heap.size + 1 < w1.heap.size := HW01.out
      exact bodyPost_ret (v := .tuple #[.agg #[.slice x1 y1 u1, .slice none 0 0, .bool false], .int .i64 0]) (by simp [results, Try.results39, go_sem, z0, z1, z2]) rfl
        ⟨_, rfl, ((((PA9.out.setCell ⟨w.heap.size + 1, 0, none⟩ hl _).setCell ⟨w.heap.size + 1, 1, none⟩ hl _).setCell ⟨w.heap.size + 1, 2, none⟩ hl _).mono (by omega : w.heap.size ≤ w1.heap.size)).dev (D := DK.flushed D) (by rw [layH_lists, HHl.out, HKl.out]; rfl) rfl false HD.out.symm,
          ((HB9.out.setCell (p := ⟨w.heap.size + 1, 0, none⟩) (by show w.heap.size ≤ w.heap.size + 1; omega) _).setCell (p := ⟨w.heap.size + 1, 1, none⟩) (by show w.heap.size ≤ w.heap.size + 1; omega) _).setCell (p := ⟨w.heap.size + 1, 2, none⟩) (by show w.heap.size ≤ w.heap.size + 1; omega) _⟩
end Go.Proofs.Ytnhfkfihlkbkfaa.PW

namespace Go.Proofs.Ytnhfkfihlkbkfaa.PW
open Go.RowKit
open DK (Dv)
set_option linter.unusedVariables false
set_option maxRecDepth 100000
set_option linter.unusedSimpArgs false

set_option maxRecDepth 100000 in
set_option maxHeartbeats 1000000 in
theorem refFlushed_any (a : Option Addr) (n c : Nat) (a' : Option Addr) (n' c' : Nat) (D : Dv) (w : World) (hr : DevAt w.heap.size w a n c a' n' c' D) (hf : Fit D) :
    Calls Try.prog 87 #[.agg #[.slice a n c, .slice a' n' c', .bool D.dead]] w (TheDev w (DK.rflushed D)) := by
  have CS : Hid (∀ w1, Below w.heap.size w w1 → ∀ m : Nat, m < n → Calls Try.prog 89 #[.agg #[.slice a n c, .slice a' n' c', .bool D.dead], .int .i64 (m : Int)] w1 (NewSl w1 (DK.seen D (m : Int)))) := fun w1 h m hm => refSeen_any a n c a' n' c' D m w1 (hr.here h) hf hm
  obtain ⟨dd, hdd⟩ : ∃ dd, dd = D.dead := ⟨_, rfl⟩
  have HD := Lib.hid hdd
  rw [← hdd] at CS ⊢
  clear hdd
  have Hn := Lib.hid hr.long
  have hs := hr.small.1
  unfold maxLen at hs
  have HF := Lib.hid hf
  clear hr hf
  go_enter Try.func87, Try.ntmps87
  go_wp2_with fail
  have hx1 := Bx.new w [.slice a n c, .slice a' n' c', .bool dd] 37
  have hx2 := Bx.new (w.alloc (.cells #[.slice a n c, .slice a' n' c', .bool dd] 37)) [.slice none 0 0, .slice none 0 0, .bool false] 37
  have hx3 := Bx.new ((w.alloc (.cells #[.slice a n c, .slice a' n' c', .bool dd] 37)).alloc (.cells #[.slice none 0 0, .slice none 0 0, .bool false] 37)) [.slice none 0 0, .slice none 0 0, .bool dd] 37
  have hx1' := (hx1.alloc (.cells #[.slice none 0 0, .slice none 0 0, .bool false] 37)).alloc (.cells #[.slice none 0 0, .slice none 0 0, .bool dd] 37)
  have hx2' := hx2.alloc (.cells #[.slice none 0 0, .slice none 0 0, .bool dd] 37)
  have hb1 : Below w.heap.size w (((w.alloc (.cells #[.slice a n c, .slice a' n' c', .bool dd] 37)).alloc (.cells #[.slice none 0 0, .slice none 0 0, .bool false] 37)).alloc (.cells #[.slice none 0 0, .slice none 0 0, .bool dd] 37)) :=
    (((Below.refl _ _).alloc (Nat.le_refl _) _).alloc (by simp) _).alloc (by simp; omega) _
  have hz1 : (((w.alloc (.cells #[.slice a n c, .slice a' n' c', .bool dd] 37)).alloc (.cells #[.slice none 0 0, .slice none 0 0, .bool false] 37)).alloc (.cells #[.slice none 0 0, .slice none 0 0, .bool dd] 37)).heap.size = w.heap.size + 3 := by simp
  simp only [World.size_alloc] at hx2' hx3
  clear hx1 hx2
  generalize ((w.alloc (.cells #[.slice a n c, .slice a' n' c', .bool dd] 37)).alloc (.cells #[.slice none 0 0, .slice none 0 0, .bool false] 37)).alloc (.cells #[.slice none 0 0, .slice none 0 0, .bool dd] 37) = W1 at *
  have HX1 := Lib.hid hx1'
  have HX2 := Lib.hid hx2'
  have HX3 := Lib.hid hx3
  have HB1 := Lib.hid hb1
  have HZ1 := Lib.hid hz1
  clear hx1' hx2' hx3 hb1 hz1
  go_loopw [4] (fun i wr => ∃ (k : Nat) (v : Value) (K : List Hd), k ≤ n ∧ i = .int .i64 k ∧ Hid (W1.grownBy wr (some (w.heap.size + 1 + 1))) ∧ Hid (Bx wr (w.heap.size + 1 + 1) [v, .slice none 0 0, .bool dd]) ∧ Hid (Grow W1.heap.size wr v K) ∧ Hid (K.length = k) ∧ Hid (lists K = (List.range k).map (fun (j : Nat) => DK.seen D (j : Int)))) (fun i _ => n - (intOf i).toNat)
  case atStart => exact ⟨0, _, [], by omega, rfl, World.grownBy.refl _ _, HX3.out, Grow.nil _ _, (rfl : ([] : List Hd).length = 0), (rfl : lists [] = (List.range 0).map (fun (j : Nat) => DK.seen D (j : Int)))⟩
  case round =>
    obtain ⟨k, v, K, hk, rfl, GB, B3, GR, HK, HL⟩ := hrel
    have kb : Hid (Below w.heap.size w wr) := HB1.out.trans (Below.ofGrown GB.out (by rw [HZ1.out]; omega) (fun b e => by injection e with e; omega))
    have hx0 := HX1.out.grown GB.out (by intro e; injection e with e; omega)
    have HXr := Lib.hid hx0
    have hlg0 : w.heap.size < wr.heap.size := hx0.lt
    obtain ⟨d0, d1, d2⟩ := hx0.three
    have hlg : w.heap.size + 1 + 1 < wr.heap.size := B3.out.lt
    have hfz : wr.drew.frozen? ⟨w.heap.size + 1 + 1, 0, none⟩ = false := B3.out.drew.frozen 0
    clear hx0
    by_cases hlt : k < n
    · have CS1 := Lib.hid (CS.out wr.drew kb.out.drew k hlt)
      have Hlt := Lib.hid hlt
      have i1 : (k : Int) < (n : Int) := by omega
      go_wp2_with fail
      refine wp_region_noPanic ?_
      refine PX.wp_region_x (fun w' => w'.cell? ⟨w.heap.size + 1 + 1, 0, none⟩ = some v ∧ w'.cell? ⟨w.heap.size, 0, none⟩ = some (.slice a n c) ∧ w'.cell? ⟨w.heap.size, 1, none⟩ = some (.slice a' n' c') ∧ w'.cell? ⟨w.heap.size, 2, none⟩ = some (.bool dd)) 8 (by kernel_rfl) ⟨B3.out.drew.three.1, HXr.out.drew.three⟩ (fun hHeld => ?_)
      refine PX.wpAnyX_take (i := 0) (oi := ?_) (v := ?_) ?_ (by kernel_rfl) (by kernel_rfl) (by kernel_rfl) (by kernel_rfl) (by kernel_rfl) (fun _ _ _ h => h) (Or.inl ⟨?_, ?_⟩) (by assumption) ?_
      rotate_left 2
      · simp only [List.getElem?_toArray, List.getElem?_cons_succ, List.getElem?_cons_zero]; rfl
      · rfl
      · intro w hSw; (try dsimp only at hSw); go_simp <;> with_reducible rfl
      (try simp only [Act.put, List.setIfInBounds_toArray, List.set_cons_zero, List.set_cons_succ])
      refine PX.wpAnyX_take (i := 1) (oi := ?_) (v := ?_) ?_ (by kernel_rfl) (by kernel_rfl) (by kernel_rfl) (by kernel_rfl) (by kernel_rfl) (fun _ _ _ h => h) (Or.inl ⟨?_, ?_⟩) (by assumption) ?_
      rotate_left 2
      · simp only [List.getElem?_toArray, List.getElem?_cons_succ, List.getElem?_cons_zero]; rfl
      · rfl
      · intro w hSw; (try dsimp only at hSw); go_simp <;> with_reducible rfl
      (try simp only [Act.put, List.setIfInBounds_toArray, List.set_cons_zero, List.set_cons_succ])
      refine PX.wpAnyX_take (i := 2) (oi := ?_) (v := ?_) ?_ (by kernel_rfl) (by kernel_rfl) (by kernel_rfl) (by kernel_rfl) (by kernel_rfl) (fun _ _ _ h => h) (Or.inl ⟨?_, ?_⟩) (by assumption) ?_
      rotate_left 2
      · simp only [List.getElem?_toArray, List.getElem?_cons_succ, List.getElem?_cons_zero]; rfl
      · rfl
      · intro w hSw; (try dsimp only at hSw); go_simp <;> with_reducible rfl
      (try simp only [Act.put, List.setIfInBounds_toArray, List.set_cons_zero, List.set_cons_succ])
      refine PX.wpAnyX_take (i := 3) (oi := ?_) (v := ?_) ?_ (by kernel_rfl) (by kernel_rfl) (by kernel_rfl) (by kernel_rfl) (by kernel_rfl) (fun _ _ _ h => h) (Or.inl ⟨?_, ?_⟩) (by assumption) ?_
      rotate_left 2
      · simp only [List.getElem?_toArray, List.getElem?_cons_succ, List.getElem?_cons_zero]; rfl
      · rfl
      · intro w hSw; (try dsimp only at hSw); go_simp <;> with_reducible rfl
      (try simp only [Act.put, List.setIfInBounds_toArray, List.set_cons_zero, List.set_cons_succ])
      refine PX.wpAnyX_one (i := 4) (o := ?_) (by kernel_rfl) ?_ (fun Kq hKq => ?_)
      rotate_left
      · simp only [List.getElem?_toArray, List.getElem?_cons_succ, List.getElem?_cons_zero]; rfl
      go_simp
      refine CS1.out.mono ?_
      rintro e w5 ⟨a5, n5, c5, rfl, it5, b5⟩
      obtain ⟨v6, w6, r6, G6, g6⟩ := (GR.out.drew).step (Nat.le_trans GB.out.size (Nat.le_refl _)) (by have h1 := HK.out; have h2 := HF.out.1; have h3 := Hn.out.1; have h4 := Hlt.out; omega) b5 it5
      have hn6 : (K ++ [(⟨a5, n5, c5, DK.seen D (k : Int)⟩ : Hd)]).length = k + 1 := by rw [List.length_append, HK.out]; rfl
      have hl6 : lists (K ++ [(⟨a5, n5, c5, DK.seen D (k : Int)⟩ : Hd)]) = (List.range (k + 1)).map (fun (j : Nat) => DK.seen D (j : Int)) := by rw [lists_append, HL.out, List.range_succ, List.map_append]; rfl
      generalize K ++ [(⟨a5, n5, c5, DK.seen D (k : Int)⟩ : Hd)] = K6 at *
      obtain ⟨g6b, cp6, rfl, hg6a, hg6b, hg6c, hg6d⟩ := G6.own.form (by rw [hn6]; omega)
      have hvb : ∀ e, v.ownBlock = some e → w.heap.size + 3 ≤ e := fun e he => by have := (GR.out.lt _ he).1; rw [HZ1.out] at this; exact this
      have hb6 : Hid (Bx w6 (w.heap.size + 1 + 1) [v, .slice none 0 0, .bool dd]) := ((B3.out.drew.here b5).alloc _).grown g6 (fun e => by have := hvb _ e; omega)
      have hd6 : Hid (Bx w6 w.heap.size [.slice a n c, .slice a' n' c', .bool dd]) := ((HXr.out.drew.here b5).alloc _).grown g6 (fun e => by have := hvb _ e; omega)
      have hf6 := hb6.out.frozen 0
      have HN6 := Lib.hid hn6
      have HLL6 := Lib.hid hl6
      have R6 := Lib.hid r6
      have G6' := Lib.hid G6
      have g6' := Lib.hid g6
      have B5 := Lib.hid b5
      clear hn6 hl6 hg6a hg6b hg6c hg6d r6 G6 g6 b5 it5 hvb
      go_wp2_with fail
      refine hKq.out _ _ (⟨(B3.out.drew.here B5.out).three.1, (HXr.out.drew.here B5.out).three⟩) (fun hHeld => ?_)
      clear hKq Kq
      (try simp only [Act.put, List.setIfInBounds_toArray, List.set_cons_zero, List.set_cons_succ])
      refine PX.wpAnyX_one (i := 5) (o := ?_) (by kernel_rfl) ?_ (fun Kq hKq => ?_)
      rotate_left
      · simp only [List.getElem?_toArray, List.getElem?_cons_succ, List.getElem?_cons_zero]; rfl
      go_simp
      refine hKq.out _ _ (⟨((B3.out.drew.here B5.out).alloc _).three.1, ((HXr.out.drew.here B5.out).alloc _).three⟩) (fun hHeld => ?_)
      clear hKq Kq
      (try simp only [Act.put, List.setIfInBounds_toArray, List.set_cons_zero, List.set_cons_succ])
      refine PX.wpAnyX_one (i := 6) (o := ?_) (by kernel_rfl) ?_ (fun Kq hKq => ?_)
      rotate_left
      · simp only [List.getElem?_toArray, List.getElem?_cons_succ, List.getElem?_cons_zero]; rfl
      refine PX.step_append_run _ _ _ _ (by rfl) (by rfl) R6.out ?_
      refine hKq.out _ _ (⟨hb6.out.three.1, hd6.out.three⟩) (fun hHeld => ?_)
      clear hKq Kq
      (try simp only [Act.put, List.setIfInBounds_toArray, List.set_cons_zero, List.set_cons_succ])
      refine PX.wpAnyX_one (i := 7) (o := ?_) (by kernel_rfl) ?_ (fun Kq hKq => ?_)
      rotate_left
      · simp only [List.getElem?_toArray, List.getElem?_cons_succ, List.getElem?_cons_zero]; rfl
      go_simp
      refine hKq.out _ _ (by assumption) (fun hHeld => ?_)
      clear hKq Kq
      (try simp only [Act.put, List.setIfInBounds_toArray, List.set_cons_zero, List.set_cons_succ])
      refine PX.wpAnyX_last (o := ?_) (by kernel_rfl) ?_ (fun Kq hKq => ?_)
      rotate_left
      · simp only [List.getElem?_toArray, List.getElem?_cons_succ, List.getElem?_cons_zero]; rfl
      go_simp
      refine hKq.out _ _ ?_
      clear hKq Kq
      (try simp only [Act.put, List.setIfInBounds_toArray, List.set_cons_zero, List.set_cons_succ])
      refine PX.wpAnyX_done (by kernel_rfl) ?_ _
      refine NoPanic.normal ?_
      go_wp2_with fail
      go_roundw
      case rel =>
        exact ⟨k + 1, _, K6, by have := Hlt.out; omega, by go_num, grownBy_setCell (grownBy_other (grownBy_alloc (grownBy_below (grownBy_drew GB.out) B5.out) _) g6'.out (fun b e => (GR.out.lt _ e).1)) 0 _, hb6.out.set 0 _,
          G6'.out.setCell ⟨w.heap.size + 1 + 1, 0, none⟩ (by show w.heap.size + 1 + 1 < _; rw [HZ1.out]; omega) _, HN6.out, HLL6.out⟩
      case measure => have := Hlt.out; simp [intOf]; omega
    · obtain rfl : k = n := by omega
      obtain ⟨va, vc, rfl, rv⟩ := GR.out.rds
      obtain ⟨t0, t1, t2⟩ := B3.out.three
      clear rv
      have hx2 : Bx wr (w.heap.size + 1) [.slice none 0 0, .slice none 0 0, .bool false] := HX2.out.grown GB.out (by intro e; injection e with e; omega)
      obtain ⟨q0, q1, q2⟩ := hx2.three
      have f0 := hx2.frozen 0
      have f1 := hx2.frozen 1
      have f2 := hx2.frozen 2
      clear hx2
      have fin : Hid (∀ u0 u1 u2, OwnDev w.heap.size (((wr.setCell ⟨w.heap.size + 1, 0, none⟩ u0).setCell ⟨w.heap.size + 1, 1, none⟩ u1).setCell ⟨w.heap.size + 1, 2, none⟩ u2) (.agg #[.slice va K.length vc, .slice none 0 0, .bool dd]) (DK.rflushed D) ∧ Below w.heap.size w (((wr.setCell ⟨w.heap.size + 1, 0, none⟩ u0).setCell ⟨w.heap.size + 1, 1, none⟩ u1).setCell ⟨w.heap.size + 1, 2, none⟩ u2)) := fun u0 u1 u2 => by
        have hg : w.heap.size + 1 < W1.heap.size := by rw [HZ1.out]; omega
        refine ⟨?_, ((kb.out.setCell (p := ⟨w.heap.size + 1, 0, none⟩) (by show w.heap.size ≤ w.heap.size + 1; omega) _).setCell (p := ⟨w.heap.size + 1, 1, none⟩) (by show w.heap.size ≤ w.heap.size + 1; omega) _).setCell (p := ⟨w.heap.size + 1, 2, none⟩) (by show w.heap.size ≤ w.heap.size + 1; omega) _⟩
        rw [HD.out]
        exact ⟨_, _, K, [], rfl, (((GR.out.setCell ⟨w.heap.size + 1, 0, none⟩ hg u0).setCell ⟨w.heap.size + 1, 1, none⟩ hg u1).setCell ⟨w.heap.size + 1, 2, none⟩ hg u2).mono (by rw [HZ1.out]; omega),
          GrowW.nil _ _, by rw [HL.out, Hn.out.1]; rfl, rfl, ⟨(fun _ _ h => by cases h), (fun _ _ _ _ _ h => by cases h), (fun _ h => nomatch h)⟩⟩
      generalize K.length = q at *
      go_wp2_with fail
      exact bodyPost_ret (v := .agg #[.slice va q vc, .slice none 0 0, .bool dd]) (by simp [results, Try.results87, go_sem, *]) rfl ⟨_, rfl, (fin.out _ _ _).1, (fin.out _ _ _).2⟩

def rflushDev (D : Dv) : Dv := if DK.fcode D = 0 then DK.rflushed D else DK.Dv.nil

end Go.Proofs.Ytnhfkfihlkbkfaa.PW
