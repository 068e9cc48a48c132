/-
  Contracts of layer 4: a device with one write more that lasts; the program's.
-/
import Derived.Test.YtnhfkfihlkbkfaaDiskWrite
import Derived.Test.YtnhfkfihlkbkfaaDiskDel
namespace Go.Proofs.Ytnhfkfihlkbkfaa.PW
open Go.RowKit
open DK (Dv)
set_option linter.unusedVariables false
set_option maxRecDepth 100000
set_option linter.unusedSimpArgs false

def fuaDev (D : Dv) (at_ : Int) (l : List Nat) : Dv := if DK.wcode D at_ l = 0 then DK.sure D at_ l else DK.Dv.nil

set_option maxRecDepth 100000 in
set_option maxHeartbeats 1000000 in
theorem fua_any (a : Option Addr) (n c : Nat) (a' : Option Addr) (n' c' : Nat) (D : Dv) (at_ : Int) (b : Option Addr) (len cap : Nat) (l : List Nat) (w : World) (hr : DevAt w.heap.size w a n c a' n' c' D) (hf : Fit D) (hq : Rd w.heap.size w b len cap l) (hll : l.length ≤ 100000) :
    Calls Try.prog 38 #[.agg #[.slice a n c, .slice a' n' c', .bool D.dead], .int .i64 at_, .slice b len cap] w (NewDev w (fuaDev D at_ l) (DK.wcode D at_ l)) := by
  have hb1 : Below w.heap.size w (((w.alloc (.cells #[.slice a n c, .slice a' n' c', .bool D.dead] 37)).alloc (.cells #[.int .i64 at_] 3)).alloc (.cells #[.slice none 0 0, .slice none 0 0, .bool false] 37)) := (((Below.refl _ _).alloc (Nat.le_refl _) _).alloc (by simp) _).alloc (by simp; omega) _
  have bD := ((Bx.new w [.slice a n c, .slice a' n' c', .bool D.dead] 37).alloc (.cells #[.int .i64 at_] 3)).alloc (.cells #[.slice none 0 0, .slice none 0 0, .bool false] 37)
  have bA := (Bx.new (w.alloc (.cells #[.slice a n c, .slice a' n' c', .bool D.dead] 37)) [.int .i64 at_] 3).alloc (.cells #[.slice none 0 0, .slice none 0 0, .bool false] 37)
  have bR := Bx.new ((w.alloc (.cells #[.slice a n c, .slice a' n' c', .bool D.dead] 37)).alloc (.cells #[.int .i64 at_] 3)) [.slice none 0 0, .slice none 0 0, .bool false] 37
  simp only [World.size_alloc, Nat.add_assoc] at bA bR
  have lsm : len ≤ maxLen := Nat.le_trans (by have := hq.long; have := hq.fits; omega) hq.small
  have CK := Lib.hid (writable_any a n c a' n' c' D at_ b len cap l _ (hr.here hb1) hq.long lsm)
  have CT : Hid (∀ w1, Below w.heap.size w w1 → Calls Try.prog 64 #[.agg #[.slice a n c, .slice a' n' c', .bool D.dead]] w1 (TheDev w1 D)) := fun w1 h => twin_any a n c a' n' c' D w1 (hr.here h) hf
  have CC : Hid (∀ w1, Below w.heap.size w w1 → Calls Try.prog 65 #[.slice b len cap] w1 fun e w' => ∃ a5 c5, e = .returned (.slice a5 len c5) ∧ Item w1.heap.size w' ⟨a5, len, c5, l⟩ ∧ Below w1.heap.size w1 w') := fun w1 h =>
    (clone_any b len cap l w1 (hq.here h) hll (Nat.le_refl _)).mono fun e w' ⟨a5, c5, he, ho, hrd, hb⟩ => ⟨a5, c5, he, Item.own ho hrd, hb⟩
  have HB := Lib.hid hb1
  have BD := Lib.hid bD
  have BA := Lib.hid bA
  have BR := Lib.hid bR
  have Hn := Lib.hid hr.long
  have hs := hr.small.1
  unfold maxLen at hs
  clear hb1 bD bA bR hr hf hq hll lsm
  by_cases h0 : DK.wcode D at_ l = 0
  case neg =>
    have hd : fuaDev D at_ l = DK.Dv.nil := by simp [fuaDev, h0]
    rw [hd]
    have e0 : ((DK.wcode D at_ l : Int) == 0) = false := by rw [beq_eq_false_iff_ne]; omega
    clear hd h0 Hn CT CC
    generalize DK.wcode D at_ l = q at *
    generalize D.dead = dd at *
    go_enter Try.func38, Try.ntmps38
    go_wp2_with fail
    refine CK.out.mono ?_
    rintro e w1 ⟨rfl, b1⟩
    have bR := BR.out.here b1
    have hB := thence HB.out b1 (Nat.le_refl _)
    obtain ⟨q0, q1, q2⟩ := bR.three
    have f0 := bR.frozen 0
    have f1 := bR.frozen 1
    have f2 := bR.frozen 2
    have FIN := Lib.hid (no_dev_end _ _ _ bR hB (by omega))
    clear hB b1 bR
    go_wp2_with fail
    obtain ⟨z0, z1, z2⟩ := FIN.out.1.three
    exact bodyPost_ret (v := .tuple #[noDev, .int .i64 (q : Int)]) (by simp [results, Try.results38, go_sem, noDev, z0, z1, z2]) rfl ⟨_, rfl, OwnDev.nil _ _, FIN.out.2⟩
  have hm : DK.has D at_ = true := by
    rcases Bool.eq_false_or_eq_true (DK.has D at_) with h | h
    · exact h
    · exfalso; revert h0; simp [DK.wcode, h]; split <;> simp
  obtain ⟨hm1, hm2⟩ := DK.has_iff.1 hm
  obtain ⟨m, rfl⟩ := Int.eq_ofNat_of_zero_le hm1
  have hmn : m < n := by have := Hn.out.1; omega
  have hd : fuaDev D (m : Int) l = DK.sure D (m : Int) l := by simp [fuaDev, h0]
  rw [h0, hd]
  rw [h0] at CK
  clear hd h0 hm hm1 hm2
  obtain ⟨dd, hdd⟩ : ∃ dd, dd = D.dead := ⟨_, rfl⟩
  have HD := Lib.hid hdd
  rw [← hdd] at CK CT HB BD BA BR ⊢
  clear hdd
  go_enter Try.func38, Try.ntmps38
  go_wp2_with fail
  refine CK.out.mono ?_
  rintro e w1 ⟨rfl, b1⟩
  have bR := BR.out.here b1
  have bA := BA.out.here b1
  have hB := thence HB.out b1 (Nat.le_refl _)
  obtain ⟨d0, d1, d2⟩ := (BD.out.here b1).three
  have CT1 := Lib.hid (CT.out _ hB)
  have BR1 := Lib.hid bR
  have BA1 := Lib.hid bA
  have HB1 := Lib.hid hB
  clear hB b1 bR bA CK CT
  go_wp2_with fail
  refine CT1.out.mono ?_
  rintro e w2 ⟨v, rfl, od, b2⟩
  obtain ⟨x1, y1, u1, x2, y2, u2, H, K, rfl, pa, hH, hK, hy1, hy2⟩ := od.parts
  have hyn : y1 = n := by rw [hy1, ← lists_length, hH, Hn.out.1]
  obtain ⟨gv, cp, hgv, hgv1, hgv2, hgv3, hgv4⟩ := pa.bl.own.form (by rw [← hy1]; omega)
  obtain ⟨rfl, rfl⟩ : x1 = some ⟨gv, 0, none⟩ ∧ u1 = cp := by injection hgv with p q r; exact ⟨p, r⟩
  subst hyn
  have HHl := Lib.hid hH
  have HKl := Lib.hid hK
  have HY1 := Lib.hid hy1
  have HGV1 := Lib.hid hgv1
  rw [← HD.out]
  have bR := BR1.out.here b2
  have bA := BA1.out.here b2
  have hB2 := thence HB1.out b2 (Nat.le_refl _)
  have bT := Bx.new w2 [.slice (some ⟨gv, 0, none⟩) y1 u1, .slice x2 y2 u2, .bool dd] 37
  have al : Below w2.heap.size w2 (w2.alloc (.cells [Value.slice (some ⟨gv, 0, none⟩) y1 u1, .slice x2 y2 u2, .bool dd].toArray 37)) := (Below.refl _ _).alloc (Nat.le_refl _) _
  have PA : Hid (Parts w1.heap.size (w2.alloc (.cells [Value.slice (some ⟨gv, 0, none⟩) y1 u1, .slice x2 y2 u2, .bool dd].toArray 37)) (.slice (some ⟨gv, 0, none⟩) y1 u1) (.slice x2 y2 u2) H K) := pa.here al
  have BT := Lib.hid bT
  have BR2 : Hid (Bx (w2.alloc (.cells [Value.slice (some ⟨gv, 0, none⟩) y1 u1, .slice x2 y2 u2, .bool dd].toArray 37)) (w.heap.size + 2) [.slice none 0 0, .slice none 0 0, .bool false]) := bR.here al
  have BA2 : Hid (Bx (w2.alloc (.cells [Value.slice (some ⟨gv, 0, none⟩) y1 u1, .slice x2 y2 u2, .bool dd].toArray 37)) (w.heap.size + 1) [.int .i64 (m : Int)]) := bA.here al
  have HB2 : Hid (Below w.heap.size w (w2.alloc (.cells [Value.slice (some ⟨gv, 0, none⟩) y1 u1, .slice x2 y2 u2, .bool dd].toArray 37))) := thence hB2 al (Nat.le_refl _)
  have HW12 : Hid (w1.heap.size ≤ w2.heap.size) := b2.size
  have AV : Hid (Avoid w2.heap.size (.slice (some ⟨gv, 0, none⟩) y1 u1) (.slice x2 y2 u2) H K) := pa.avoid (.inr (Nat.le_refl _))
  have HWa : Hid ((w2.alloc (.cells [Value.slice (some ⟨gv, 0, none⟩) y1 u1, .slice x2 y2 u2, .bool dd].toArray 37)).heap.size = w2.heap.size + 1) := by show _ = _; simp
  have HW01 : Hid (w.heap.size + 2 < w1.heap.size) := BR1.out.lt
  have HRW : Hid (∀ e, (Value.slice x2 y2 u2).ownBlock = some e → w1.heap.size ≤ e ∧ e < w2.heap.size) := fun e he => pa.wa.lt e he
  have HGV2 := Lib.hid hgv2
  clear bR bA hB2 bT al pa hH hK hy1 hy2 od b2 CT1 d0 d1 d2 hgv hgv1 hgv2 hgv3 hgv4
  go_wp2_with fail
  generalize hW3 : w2.alloc (.cells #[.slice (some ⟨gv, 0, none⟩) y1 u1, .slice x2 y2 u2, .bool dd] 37) = W3
  replace PA : Hid (Parts w1.heap.size W3 (.slice (some ⟨gv, 0, none⟩) y1 u1) (.slice x2 y2 u2) H K) := by rw [← hW3]; exact PA.out
  replace BT : Hid (Bx W3 w2.heap.size [.slice (some ⟨gv, 0, none⟩) y1 u1, .slice x2 y2 u2, .bool dd]) := by rw [← hW3]; exact BT.out
  replace BR2 : Hid (Bx W3 (w.heap.size + 2) [.slice none 0 0, .slice none 0 0, .bool false]) := by rw [← hW3]; exact BR2.out
  replace BA2 : Hid (Bx W3 (w.heap.size + 1) [.int .i64 (m : Int)]) := by rw [← hW3]; exact BA2.out
  replace HB2 : Hid (Below w.heap.size w W3) := by rw [← hW3]; exact HB2.out
  replace HWa : Hid (W3.heap.size = w2.heap.size + 1) := by rw [← hW3]; exact HWa.out
  clear hW3
  have gT : w2.heap.size < W3.heap.size := BT.out.lt
  have CC1 := Lib.hid (CC.out W3.drew HB2.out.drew)
  have hmi : (m : Int) < (y1 : Int) := by omega
  refine wp_region_noPanic ?_
  refine PX.wp_region_x (fun w' => w'.cell? ⟨w2.heap.size, 0, none⟩ = some (.slice (some ⟨gv, 0, none⟩) y1 u1) ∧ w'.cell? ⟨w.heap.size + 1, 0, none⟩ = some (.int .i64 (m : Int))) 6 (by kernel_rfl) ⟨BT.out.drew.three.1, BA2.out.drew.one⟩ (fun hHeld => ?_)
  refine PX.wpAnyX_take (i := 0) (oi := ?_) (v := ?_) ?_ (by kernel_rfl) (by kernel_rfl) (by kernel_rfl) (by kernel_rfl) (by kernel_rfl) (fun _ _ _ h => h) (Or.inl ⟨?_, ?_⟩) (by assumption) ?_
  rotate_left 2
  · simp only [List.getElem?_toArray, List.getElem?_cons_succ, List.getElem?_cons_zero]; rfl
  · rfl
  · intro w hSw; (try dsimp only at hSw); go_simp <;> with_reducible rfl
  (try simp only [Act.put, List.setIfInBounds_toArray, List.set_cons_zero, List.set_cons_succ])
  refine PX.wpAnyX_take (i := 1) (oi := ?_) (v := ?_) ?_ (by kernel_rfl) (by kernel_rfl) (by kernel_rfl) (by kernel_rfl) (by kernel_rfl) (fun _ _ _ h => h) (Or.inl ⟨?_, ?_⟩) (by assumption) ?_
  rotate_left 2
  · simp only [List.getElem?_toArray, List.getElem?_cons_succ, List.getElem?_cons_zero]; rfl
  · rfl
  · intro w hSw; (try dsimp only at hSw); go_simp <;> with_reducible rfl
  (try simp only [Act.put, List.setIfInBounds_toArray, List.set_cons_zero, List.set_cons_succ])
  refine PX.wpAnyX_take (i := 2) (oi := ?_) (v := ?_) ?_ (by kernel_rfl) (by kernel_rfl) (by kernel_rfl) (by kernel_rfl) (by kernel_rfl) (fun _ _ _ h => h) (Or.inl ⟨?_, ?_⟩) (by assumption) ?_
  rotate_left 2
  · simp only [List.getElem?_toArray, List.getElem?_cons_succ, List.getElem?_cons_zero]; rfl
  · rfl
  · intro w hSw; (try dsimp only at hSw); go_simp <;> with_reducible rfl
  (try simp only [Act.put, List.setIfInBounds_toArray, List.set_cons_zero, List.set_cons_succ])
  refine PX.wpAnyX_take (i := 3) (oi := ?_) (v := ?_) ?_ (by kernel_rfl) (by kernel_rfl) (by kernel_rfl) (by kernel_rfl) (by kernel_rfl) (fun _ _ _ h => h) (Or.inl ⟨?_, ?_⟩) (by assumption) ?_
  rotate_left 2
  · simp only [List.getElem?_toArray, List.getElem?_cons_succ, List.getElem?_cons_zero]; rfl
  · rfl
  · intro w hSw; (try dsimp only at hSw); go_simp <;> with_reducible rfl
  (try simp only [Act.put, List.setIfInBounds_toArray, List.set_cons_zero, List.set_cons_succ])
  refine PX.wpAnyX_one (i := 4) (o := ?_) (by kernel_rfl) ?_ (fun Kq hKq => ?_)
  rotate_left
  · simp only [List.getElem?_toArray, List.getElem?_cons_succ, List.getElem?_cons_zero]; rfl
  go_simp
  refine CC1.out.mono ?_
  rintro e w5 ⟨a5, c5, rfl, it5, b5⟩
  have P5 : Hid (Parts w1.heap.size w5 (.slice (some ⟨gv, 0, none⟩) y1 u1) (.slice x2 y2 u2) H K) := (PA.out.here (Below.refl _ _).drew).here b5
  have I5 : Hid (Item W3.heap.size w5 ⟨a5, len, c5, l⟩) := it5
  have T5 := Lib.hid (BT.out.drew.here b5)
  have R5 := Lib.hid (BR2.out.drew.here b5)
  have A5 := Lib.hid (BA2.out.drew.here b5)
  have HB5 : Hid (Below w.heap.size w w5) := HB2.out.trans (((Below.refl _ _).drew.trans b5).mono HB2.out.size)
  have hmH : m < H.length := by rw [← HY1.out]; exact hmn
  have hcm := P5.out.bl.own.cell HY1.out m hmH
  have hfm := P5.out.bl.own.frozen HY1.out m
  generalize (H.getD m Hd.nil).val = ov at *
  clear it5 b5 hmH
  go_wp2_with fail
  refine hKq.out _ _ (⟨T5.out.three.1, A5.out.one⟩) (fun hHeld => ?_)
  clear hKq Kq
  (try simp only [Act.put, List.setIfInBounds_toArray, List.set_cons_zero, List.set_cons_succ])
  refine PX.wpAnyX_one (i := 5) (o := ?_) (by kernel_rfl) ?_ (fun Kq hKq => ?_)
  rotate_left
  · simp only [List.getElem?_toArray, List.getElem?_cons_succ, List.getElem?_cons_zero]; rfl
  go_simp
  refine hKq.out _ _ (by assumption) (fun hHeld => ?_)
  clear hKq Kq
  (try simp only [Act.put, List.setIfInBounds_toArray, List.set_cons_zero, List.set_cons_succ])
  refine PX.wpAnyX_last (o := ?_) (by kernel_rfl) ?_ (fun Kq hKq => ?_)
  rotate_left
  · simp only [List.getElem?_toArray, List.getElem?_cons_succ, List.getElem?_cons_zero]; rfl
  go_simp
  refine hKq.out _ _ ?_
  clear hKq Kq
  (try simp only [Act.put, List.setIfInBounds_toArray, List.set_cons_zero, List.set_cons_succ])
  refine PX.wpAnyX_done (by kernel_rfl) ?_ _
  have IM : Hid (∀ b, a5 = some b → l ≠ [] → W3.heap.size ≤ b.block) := fun b hb hl => (I5.out.block (b := b) hb hl).1
  have HG3 : Hid (gv < W3.heap.size) := by show gv < W3.heap.size; have h1 := HGV2.out; omega
  have HR3 : Hid (∀ e, (Value.slice x2 y2 u2).ownBlock = some e → e < W3.heap.size) := fun e he => by have h1 := (HRW.out e he).2; have h2 := HWa.out; omega
  have BT7 : Hid (Bx (w5.setCell ⟨gv, m, none⟩ (.slice a5 len c5)) w2.heap.size [.slice (some ⟨gv, 0, none⟩) y1 u1, .slice x2 y2 u2, .bool dd]) := T5.out.other _ (by show gv ≠ w2.heap.size; have h1 := HGV2.out; omega) _
  have BR7 : Hid (Bx (w5.setCell ⟨gv, m, none⟩ (.slice a5 len c5)) (w.heap.size + 2) [.slice none 0 0, .slice none 0 0, .bool false]) := R5.out.other _ (by show gv ≠ w.heap.size + 2; have h1 := HGV1.out; have h2 := HW01.out; omega) _
  have BA7 : Hid (Bx (w5.setCell ⟨gv, m, none⟩ (.slice a5 len c5)) (w.heap.size + 1) [.int .i64 (m : Int)]) := A5.out.other _ (by show gv ≠ w.heap.size + 1; have h1 := HGV1.out; have h2 := HW01.out; omega) _
  have HB7 : Hid (Below w.heap.size w (w5.setCell ⟨gv, m, none⟩ (.slice a5 len c5))) := HB5.out.setCell (p := ⟨gv, m, none⟩) (by show w.heap.size ≤ gv; have h1 := HGV1.out; have h2 := HW01.out; omega) _
  have PA7 : Hid (Parts w1.heap.size (w5.setCell ⟨gv, m, none⟩ (.slice a5 len c5)) (.slice (some ⟨gv, 0, none⟩) y1 u1) (.slice x2 y2 u2) (H.set m ⟨a5, len, c5, l⟩) K) := P5.out.setBlock HY1.out m ⟨a5, len, c5, l⟩ (I5.out.mono (by have h1 := HW12.out; have h2 := HWa.out; omega)) (fun b hb hl => by have h1 := IM.out b hb hl; have h2 := HG3.out; omega) (fun b hb hl e => by have h1 := IM.out b hb hl; have h2 := HR3.out _ e; omega)
  have AV7 : Hid (Avoid w2.heap.size (.slice (some ⟨gv, 0, none⟩) y1 u1) (.slice x2 y2 u2) (H.set m ⟨a5, len, c5, l⟩) K) := ⟨AV.out.b, AV.out.w, fun z hz b hb hl e => by rcases List.mem_or_eq_of_mem_set hz with h | h; exact AV.out.h z h b hb hl e; subst h; have h1 := IM.out b hb hl; omega, AV.out.k⟩
  generalize w5.setCell ⟨gv, m, none⟩ (.slice a5 len c5) = W7 at *
  refine NoPanic.normal ?_
  obtain ⟨t0, t1, t2⟩ := BT7.out.three
  have hTf1 := BT7.out.frozen 1
  have CDl := Lib.hid (delete_any w1.heap.size x2 y2 u2 K (m : Int) (w.heap.size + 1) W7 PA7.out.wa BA7.out.one BA7.out.lt (fun e => by have h1 := (HRW.out _ e).1; have h2 := HW01.out; omega))
  go_wp2_with fail
  refine CDl.out.mono ?_
  rintro e w8 ⟨m8, rfl, o8, g8⟩
  have PA8 : Hid (Parts w1.heap.size w8 (.slice (some ⟨gv, 0, none⟩) y1 u1) (.slice x2 m8 u2) (H.set m ⟨a5, len, c5, l⟩) (filt (m : Int) K)) := PA7.out.strike o8 g8
  have BT8 : Hid (Bx w8 w2.heap.size [.slice (some ⟨gv, 0, none⟩) y1 u1, .slice x2 y2 u2, .bool dd]) := BT7.out.grown g8 (fun e => absurd (HRW.out _ e).2 (Nat.lt_irrefl _))
  have BR8 : Hid (Bx w8 (w.heap.size + 2) [.slice none 0 0, .slice none 0 0, .bool false]) := BR7.out.grown g8 (fun e => by have h1 := (HRW.out _ e).1; have h2 := HW01.out; omega)
  have HB8 : Hid (Below w.heap.size w w8) := HB7.out.grown g8 HB7.out.size (fun e he => by have h1 := (HRW.out _ he).1; have h2 := HW01.out; omega)
  have av8 := AV7.out
  have AV8 : Hid (Avoid w2.heap.size (.slice (some ⟨gv, 0, none⟩) y1 u1) (.slice x2 m8 u2) (H.set m ⟨a5, len, c5, l⟩) (filt (m : Int) K)) :=
    ⟨av8.b, fun e => av8.w (by cases x2 <;> exact e), av8.h, fun z hz => av8.k z (List.mem_filter.1 hz).1⟩
  obtain ⟨u0, u1', u2'⟩ := BT8.out.three
  obtain ⟨q0, q1, q2⟩ := BR8.out.three
  have fT := BT8.out.frozen 1
  have f0 := BR8.out.frozen 0
  have f1 := BR8.out.frozen 1
  have f2 := BR8.out.frozen 2
  have hRT : w.heap.size + 2 < w2.heap.size := Nat.lt_of_lt_of_le HW01.out HW12.out
  have BT9 : Hid (Bx (w8.setCell ⟨w2.heap.size, 1, none⟩ (.slice x2 m8 u2)) w2.heap.size [.slice (some ⟨gv, 0, none⟩) y1 u1, .slice x2 m8 u2, .bool dd]) := BT8.out.set 1 _
  have BR9 : Hid (Bx (w8.setCell ⟨w2.heap.size, 1, none⟩ (.slice x2 m8 u2)) (w.heap.size + 2) [.slice none 0 0, .slice none 0 0, .bool false]) := BR8.out.other _ (by show w2.heap.size ≠ w.heap.size + 2; omega) _
  have HB9 : Hid (Below w.heap.size w (w8.setCell ⟨w2.heap.size, 1, none⟩ (.slice x2 m8 u2))) := HB8.out.setCell (p := ⟨w2.heap.size, 1, none⟩) (by show w.heap.size ≤ w2.heap.size; omega) _
  have PA9 : Hid (Parts w1.heap.size (w8.setCell ⟨w2.heap.size, 1, none⟩ (.slice x2 m8 u2)) (.slice (some ⟨gv, 0, none⟩) y1 u1) (.slice x2 m8 u2) (H.set m ⟨a5, len, c5, l⟩) (filt (m : Int) K)) := PA8.out.store ⟨w2.heap.size, 1, none⟩ AV8.out _
  clear o8 g8 av8
  go_wp2_with fail
  have z := ((BR9.out.set 0 (.slice (some ⟨gv, 0, none⟩) y1 u1)).set 1 (.slice x2 m8 u2)).set 2 (.bool dd)
  obtain ⟨z0, z1, z2⟩ := z.three
  have hl : w.heap.size + 2 < w1.heap.size := HW01.out
  exact bodyPost_ret (v := .tuple #[.agg #[.slice (some ⟨gv, 0, none⟩) y1 u1, .slice x2 m8 u2, .bool dd], .int .i64 0]) (by simp [results, Try.results38, go_sem, z0, z1, z2]) rfl
    ⟨_, rfl, ((((PA9.out.setCell ⟨w.heap.size + 2, 0, none⟩ hl _).setCell ⟨w.heap.size + 2, 1, none⟩ hl _).setCell ⟨w.heap.size + 2, 2, none⟩ hl _).mono (by omega : w.heap.size ≤ w1.heap.size)).dev (D := DK.sure D (m : Int) l) (by rw [lists_set, HHl.out]; rfl) (by rw [wlist_filt, HKl.out]; rfl) dd HD.out,
      ((HB9.out.setCell (p := ⟨w.heap.size + 2, 0, none⟩) (by show w.heap.size ≤ w.heap.size + 2; omega) _).setCell (p := ⟨w.heap.size + 2, 1, none⟩) (by show w.heap.size ≤ w.heap.size + 2; omega) _).setCell (p := ⟨w.heap.size + 2, 2, none⟩) (by show w.heap.size ≤ w.heap.size + 2; omega) _⟩
end Go.Proofs.Ytnhfkfihlkbkfaa.PW
