/-
  Contracts of layer 4: a device with one write more that waits; the program's.
  Contract of 'slices.DeleteFunc' over writes, with the program's function value: those of one place are struck.
  Contracts of layer 4: a device with one write more that lasts; the program's.
-/
import Derived.Test.YtnhfkfihlkbkfaaDiskCodes
import Derived.Test.YtnhfkfihlkbkfaaDiskTwin
import Derived.Test.YtnhfkfihlkbkfaaDiskMake
import Derived.Test.YtnhfkfihlkbkfaaKinds
import Derived.Test.YtnhfkfihlkbkfaaHoist
import Derived.Test.YtnhfkfihlkbkfaaDiskSmall
namespace Go.Proofs.Ytnhfkfihlkbkfaa.PW
open Go.RowKit
open DK (Dv)
set_option linter.unusedVariables false
set_option maxRecDepth 100000
set_option linter.unusedSimpArgs false

def writeDev (D : Dv) (at_ : Int) (l : List Nat) : Dv := if DK.wcode' D at_ l = 0 then DK.put D at_ l else DK.Dv.nil

/-- The end of a function that hands back no device and an error: what its result's cells hold. -/
theorem no_dev_end {w W : World} {g : Nat} (x y z : Value) (h : Bx W g [x, y, z]) (hb : Below w.heap.size w W) (hg : w.heap.size ≤ g) :
    Bx (((W.setCell ⟨g, 0, none⟩ (.slice none 0 0)).setCell ⟨g, 1, none⟩ (.slice none 0 0)).setCell ⟨g, 2, none⟩ (.bool false)) g [.slice none 0 0, .slice none 0 0, .bool false] ∧
    Below w.heap.size w (((W.setCell ⟨g, 0, none⟩ (.slice none 0 0)).setCell ⟨g, 1, none⟩ (.slice none 0 0)).setCell ⟨g, 2, none⟩ (.bool false)) :=
  ⟨((h.set 0 _).set 1 _).set 2 _, ((hb.setCell (p := ⟨g, 0, none⟩) hg _).setCell (p := ⟨g, 1, none⟩) hg _).setCell (p := ⟨g, 2, none⟩) hg _⟩

set_option maxRecDepth 100000 in
set_option maxHeartbeats 1000000 in
theorem write_any (a : Option Addr) (n c : Nat) (a' : Option Addr) (n' c' : Nat) (D : Dv) (at_ : Int) (b : Option Addr) (len cap : Nat) (l : List Nat) (w : World) (hr : DevAt w.heap.size w a n c a' n' c' D) (hf : Fit D) (hq : Rd w.heap.size w b len cap l) (hll : l.length ≤ 100000) :
    Calls Try.prog 36 #[.agg #[.slice a n c, .slice a' n' c', .bool D.dead], .int .i64 at_, .slice b len cap] w (NewDev w (writeDev D at_ l) (DK.wcode' D at_ l)) := by
  have hb1 : Below w.heap.size w ((w.alloc (.cells #[.slice a n c, .slice a' n' c', .bool D.dead] 37)).alloc (.cells #[.slice none 0 0, .slice none 0 0, .bool false] 37)) := ((Below.refl _ _).alloc (Nat.le_refl _) _).alloc (by simp) _
  have bD := (Bx.new w [.slice a n c, .slice a' n' c', .bool D.dead] 37).alloc (.cells #[.slice none 0 0, .slice none 0 0, .bool false] 37)
  have bR := Bx.new (w.alloc (.cells #[.slice a n c, .slice a' n' c', .bool D.dead] 37)) [.slice none 0 0, .slice none 0 0, .bool false] 37
  simp only [World.size_alloc] at bR
  have lsm : len ≤ maxLen := Nat.le_trans (by have := hq.long; have := hq.fits; omega) hq.small
  have CK := Lib.hid (writable_any a n c a' n' c' D at_ b len cap l _ (hr.here hb1) hq.long lsm)
  have CT : Hid (∀ w1, Below w.heap.size w w1 → Calls Try.prog 64 #[.agg #[.slice a n c, .slice a' n' c', .bool D.dead]] w1 (TheDev w1 D)) := fun w1 h => twin_any a n c a' n' c' D w1 (hr.here h) hf
  have CC : Hid (∀ w1, Below w.heap.size w w1 → Calls Try.prog 65 #[.slice b len cap] w1 fun e w' => ∃ a5 c5, e = .returned (.slice a5 len c5) ∧ Item w1.heap.size w' ⟨a5, len, c5, l⟩ ∧ Below w1.heap.size w1 w') := fun w1 h =>
    (clone_any b len cap l w1 (hq.here h) hll (Nat.le_refl _)).mono fun e w' ⟨a5, c5, he, ho, hrd, hb⟩ => ⟨a5, c5, he, Item.own ho hrd, hb⟩
  have HB := Lib.hid hb1
  have BD := Lib.hid bD
  have BR := Lib.hid bR
  have Hn := Lib.hid hr.long.2
  have hs := hr.small.2
  unfold maxLen at hs
  have HF := Lib.hid hf
  clear hb1 bD bR hr hf hq hll lsm
  by_cases h0 : DK.wcode D at_ l = 0
  case neg =>
    have hk : DK.wcode' D at_ l = DK.wcode D at_ l := by simp [DK.wcode', h0]
    have hd : writeDev D at_ l = DK.Dv.nil := by simp [writeDev, hk, h0]
    rw [hk, hd]
    have e0 : ((DK.wcode D at_ l : Int) == 0) = false := by rw [beq_eq_false_iff_ne]; omega
    clear hk hd h0 Hn CT CC
    generalize DK.wcode D at_ l = q at *
    generalize D.dead = dd at *
    go_enter Try.func36, Try.ntmps36
    go_wp2_with fail
    refine CK.out.mono ?_
    rintro e w1 ⟨rfl, b1⟩
    have bR := BR.out.here b1
    have hB := thence HB.out b1 (Nat.le_refl _)
    obtain ⟨q0, q1, q2⟩ := bR.three
    have f0 := bR.frozen 0
    have f1 := bR.frozen 1
    have f2 := bR.frozen 2
    have FIN := Lib.hid (no_dev_end _ _ _ bR hB (Nat.le_succ _))
    clear hB b1 bR
    go_wp2_with fail
    obtain ⟨z0, z1, z2⟩ := FIN.out.1.three
    exact bodyPost_ret (v := .tuple #[noDev, .int .i64 (q : Int)]) (by simp [results, Try.results36, go_sem, noDev, z0, z1, z2]) rfl ⟨_, rfl, OwnDev.nil _ _, FIN.out.2⟩
  rw [h0] at CK
  by_cases h9 : n' = 1024
  · have hk : DK.wcode' D at_ l = 9 := by simp only [DK.wcode', h0]; rw [← Hn.out, h9]; rfl
    have hd : writeDev D at_ l = DK.Dv.nil := by simp [writeDev, hk]
    rw [hk, hd]
    clear hk hd h0 Hn CT CC
    subst h9
    generalize D.dead = dd at *
    go_enter Try.func36, Try.ntmps36
    go_wp2_with fail
    refine CK.out.mono ?_
    rintro e w1 ⟨rfl, b1⟩
    have bR := BR.out.here b1
    have hB := thence HB.out b1 (Nat.le_refl _)
    obtain ⟨d0, d1, d2⟩ := (BD.out.here b1).three
    obtain ⟨q0, q1, q2⟩ := bR.three
    have f0 := bR.frozen 0
    have f1 := bR.frozen 1
    have f2 := bR.frozen 2
    have FIN := Lib.hid (no_dev_end _ _ _ bR hB (Nat.le_succ _))
    clear hB b1 bR
    go_wp2_with fail
    obtain ⟨z0, z1, z2⟩ := FIN.out.1.three
    exact bodyPost_ret (v := .tuple #[noDev, .int .i64 9]) (by simp [results, Try.results36, go_sem, noDev, z0, z1, z2]) rfl ⟨_, rfl, OwnDev.nil _ _, FIN.out.2⟩
  · have hm : DK.may D = true := by
      rcases Bool.eq_false_or_eq_true (DK.may D) with h | h
      · exact h
      · simp [DK.wcode, h] at h0
    have h9' : D.ws.length ≤ 1023 := by have := (DK.may_iff.1 hm).2.2.1; have := Hn.out; omega
    have hk : DK.wcode' D at_ l = 0 := by simp only [DK.wcode', h0]; simp; omega
    have hd : writeDev D at_ l = DK.put D at_ l := by simp [writeDev, hk]
    rw [hk, hd]
    have e9 : ((n' : Int) == 1024) = false := by rw [beq_eq_false_iff_ne]; omega
    have H9 := Lib.hid h9'
    clear hk hd h0 hm h9'
    obtain ⟨dd, hdd⟩ : ∃ dd, dd = D.dead := ⟨_, rfl⟩
    have HD := Lib.hid hdd
    rw [← hdd] at CK CT HB BD BR ⊢
    clear hdd
    go_enter Try.func36, Try.ntmps36
    go_wp2_with fail
    refine CK.out.mono ?_
    rintro e w1 ⟨rfl, b1⟩
    have bR := BR.out.here b1
    have hB := thence HB.out b1 (Nat.le_refl _)
    obtain ⟨d0, d1, d2⟩ := (BD.out.here b1).three
    have CT1 := Lib.hid (CT.out _ hB)
    have BR1 := Lib.hid bR
    have HB1 := Lib.hid hB
    clear hB b1 bR CK CT
    go_wp2_with fail
    refine CT1.out.mono ?_
    rintro e w2 ⟨v, rfl, od, b2⟩
    obtain ⟨x1, y1, u1, x2, y2, u2, H, K, rfl, pa, hH, hK, hy1, hy2⟩ := od.parts
    have HHl := Lib.hid hH
    have HKl := Lib.hid hK
    have HY2 := Lib.hid hy2
    rw [← HD.out]
    have bR := BR1.out.here b2
    have hB2 := thence HB1.out b2 (Nat.le_refl _)
    have bT := Bx.new w2 [.slice x1 y1 u1, .slice x2 y2 u2, .bool dd] 37
    have al : Below w2.heap.size w2 (w2.alloc (.cells [Value.slice x1 y1 u1, .slice x2 y2 u2, .bool dd].toArray 37)) := (Below.refl _ _).alloc (Nat.le_refl _) _
    have PA : Hid (Parts w1.heap.size (w2.alloc (.cells [Value.slice x1 y1 u1, .slice x2 y2 u2, .bool dd].toArray 37)) (.slice x1 y1 u1) (.slice x2 y2 u2) H K) := pa.here al
    have BT := Lib.hid bT
    have BR2 : Hid (Bx (w2.alloc (.cells [Value.slice x1 y1 u1, .slice x2 y2 u2, .bool dd].toArray 37)) (w.heap.size + 1) [.slice none 0 0, .slice none 0 0, .bool false]) := bR.here al
    have HB2 : Hid (Below w.heap.size w (w2.alloc (.cells [Value.slice x1 y1 u1, .slice x2 y2 u2, .bool dd].toArray 37))) := thence hB2 al (Nat.le_refl _)
    have HW12 : Hid (w1.heap.size ≤ w2.heap.size) := b2.size
    have AV : Hid (Avoid w2.heap.size (.slice x1 y1 u1) (.slice x2 y2 u2) H K) := pa.avoid (.inr (Nat.le_refl _))
    have HWa : Hid ((w2.alloc (.cells [Value.slice x1 y1 u1, .slice x2 y2 u2, .bool dd].toArray 37)).heap.size = w2.heap.size + 1) := by show _ = _; simp
    have HW01 : Hid (w.heap.size + 1 < w1.heap.size) := BR1.out.lt
    have HRW : Hid (∀ e, (Value.slice x2 y2 u2).ownBlock = some e → w1.heap.size ≤ e ∧ e < w2.heap.size) := fun e he => pa.wa.lt e he
    clear bR hB2 bT al pa hH hK hy1 hy2 od b2 CT1 d0 d1 d2
    go_wp2_with fail
    generalize hW3 : w2.alloc (.cells #[.slice x1 y1 u1, .slice x2 y2 u2, .bool dd] 37) = W3
    replace PA : Hid (Parts w1.heap.size W3 (.slice x1 y1 u1) (.slice x2 y2 u2) H K) := by rw [← hW3]; exact PA.out
    replace BT : Hid (Bx W3 w2.heap.size [.slice x1 y1 u1, .slice x2 y2 u2, .bool dd]) := by rw [← hW3]; exact BT.out
    replace BR2 : Hid (Bx W3 (w.heap.size + 1) [.slice none 0 0, .slice none 0 0, .bool false]) := by rw [← hW3]; exact BR2.out
    replace HB2 : Hid (Below w.heap.size w W3) := by rw [← hW3]; exact HB2.out
    replace HWa : Hid (W3.heap.size = w2.heap.size + 1) := by rw [← hW3]; exact HWa.out
    clear hW3
    have gT : w2.heap.size < W3.heap.size := BT.out.lt
    have CC1 := Lib.hid (CC.out W3.drew HB2.out.drew)
    have hfz : W3.drew.frozen? ⟨w2.heap.size, 1, none⟩ = false := BT.out.drew.frozen 1
    refine wp_region_noPanic ?_
    refine PX.wp_region_x (fun w' => w'.cell? ⟨w2.heap.size, 1, none⟩ = some (.slice x2 y2 u2)) 9 (by kernel_rfl) BT.out.drew.three.2.1 (fun hHeld => ?_)
    refine PX.wpAnyX_take (i := 0) (oi := ?_) (v := ?_) ?_ (by kernel_rfl) (by kernel_rfl) (by kernel_rfl) (by kernel_rfl) (by kernel_rfl) (fun _ _ _ h => h) (Or.inl ⟨?_, ?_⟩) (by assumption) ?_
    rotate_left 2
    · simp only [List.getElem?_toArray, List.getElem?_cons_succ, List.getElem?_cons_zero]; rfl
    · rfl
    · intro w hSw; (try dsimp only at hSw); go_simp <;> with_reducible rfl
    (try simp only [Act.put, List.setIfInBounds_toArray, List.set_cons_zero, List.set_cons_succ])
    refine PX.wpAnyX_take (i := 1) (oi := ?_) (v := ?_) ?_ (by kernel_rfl) (by kernel_rfl) (by kernel_rfl) (by kernel_rfl) (by kernel_rfl) (fun _ _ _ h => h) (Or.inl ⟨?_, ?_⟩) (by assumption) ?_
    rotate_left 2
    · simp only [List.getElem?_toArray, List.getElem?_cons_succ, List.getElem?_cons_zero]; rfl
    · rfl
    · intro w hSw; (try dsimp only at hSw); go_simp <;> with_reducible rfl
    (try simp only [Act.put, List.setIfInBounds_toArray, List.set_cons_zero, List.set_cons_succ])
    refine PX.wpAnyX_take (i := 2) (oi := ?_) (v := ?_) ?_ (by kernel_rfl) (by kernel_rfl) (by kernel_rfl) (by kernel_rfl) (by kernel_rfl) (fun _ _ _ h => h) (Or.inl ⟨?_, ?_⟩) (by assumption) ?_
    rotate_left 2
    · simp only [List.getElem?_toArray, List.getElem?_cons_succ, List.getElem?_cons_zero]; rfl
    · rfl
    · intro w hSw; (try dsimp only at hSw); go_simp <;> with_reducible rfl
    (try simp only [Act.put, List.setIfInBounds_toArray, List.set_cons_zero, List.set_cons_succ])
    refine PX.wpAnyX_take (i := 3) (oi := ?_) (v := ?_) ?_ (by kernel_rfl) (by kernel_rfl) (by kernel_rfl) (by kernel_rfl) (by kernel_rfl) (fun _ _ _ h => h) (Or.inl ⟨?_, ?_⟩) (by assumption) ?_
    rotate_left 2
    · simp only [List.getElem?_toArray, List.getElem?_cons_succ, List.getElem?_cons_zero]; rfl
    · rfl
    · intro w hSw; (try dsimp only at hSw); go_simp <;> with_reducible rfl
    (try simp only [Act.put, List.setIfInBounds_toArray, List.set_cons_zero, List.set_cons_succ])
    refine PX.wpAnyX_one (i := 4) (o := ?_) (by kernel_rfl) ?_ (fun Kq hKq => ?_)
    rotate_left
    · simp only [List.getElem?_toArray, List.getElem?_cons_succ, List.getElem?_cons_zero]; rfl
    go_simp
    refine CC1.out.mono ?_
    rintro e w5 ⟨a5, c5, rfl, it5, b5⟩
    obtain ⟨v6, w6, r6, P6, g6, av6⟩ := (PA.out.here (Below.refl _ _).drew).wait (by show w1.heap.size ≤ W3.heap.size; have := HW12.out; have := HWa.out; omega) (by have h1 := H9.out; rw [← HKl.out, wlist_length] at h1; omega) b5 at_ it5
    have AV6 := Lib.hid (av6 w2.heap.size (by show _ < W3.heap.size; exact gT) AV.out)
    clear av6
    have hk6 : wlist (K ++ [(⟨at_, ⟨a5, len, c5, l⟩⟩ : Wr)]) = (DK.put D at_ l).ws := by rw [wlist_append, HKl.out]; rfl
    generalize hK6 : K ++ [(⟨at_, ⟨a5, len, c5, l⟩⟩ : Wr)] = K6 at *
    have hn6 : 0 < K6.length := by rw [← hK6]; simp
    obtain ⟨g6b, cp6, rfl, hg6a, hg6b, hg6c, hg6d⟩ := P6.wa.own.form hn6
    have HK6 := Lib.hid hk6
    clear hk6 hK6 hn6 hg6a hg6b hg6c hg6d
    have R6 := Lib.hid r6
    have P6' := Lib.hid P6
    have g6' := Lib.hid g6
    have B5 := Lib.hid b5
    have hb6 : Hid (Bx w6 w2.heap.size [.slice x1 y1 u1, .slice x2 y2 u2, .bool dd]) := ((BT.out.drew.here b5).alloc _).grown g6 (fun e => absurd (HRW.out _ e).2 (Nat.lt_irrefl _))
    have hr6 : Hid (Bx w6 (w.heap.size + 1) [.slice none 0 0, .slice none 0 0, .bool false]) := ((BR2.out.drew.here b5).alloc _).grown g6 (fun e => by have h1 := (HRW.out _ e).1; have h2 := HW01.out; omega)
    have hw6 : Hid (Below w.heap.size w w6) := (HB2.out.trans ((((Below.refl _ _).drew.trans (b5.alloc b5.size _)).mono HB2.out.size))).grown g6 (by have h1 := HB2.out.size; have h2 := (b5.alloc b5.size (.cells #[.int .i64 at_, .slice a5 len c5] 64)).size; exact Nat.le_trans h1 h2) (fun e he => by have h1 := (HRW.out _ he).1; have h2 := HW01.out; omega)
    have hf6 := hb6.out.frozen 1
    clear r6 P6 g6 it5 b5
    go_wp2_with fail
    refine hKq.out _ _ ((BT.out.drew.here B5.out).three.2.1) (fun hHeld => ?_)
    clear hKq Kq
    (try simp only [Act.put, List.setIfInBounds_toArray, List.set_cons_zero, List.set_cons_succ])
    refine PX.wpAnyX_one (i := 5) (o := ?_) (by kernel_rfl) ?_ (fun Kq hKq => ?_)
    rotate_left
    · simp only [List.getElem?_toArray, List.getElem?_cons_succ, List.getElem?_cons_zero]; rfl
    go_simp
    refine hKq.out _ _ (by assumption) (fun hHeld => ?_)
    clear hKq Kq
    (try simp only [Act.put, List.setIfInBounds_toArray, List.set_cons_zero, List.set_cons_succ])
    refine PX.wpAnyX_one (i := 6) (o := ?_) (by kernel_rfl) ?_ (fun Kq hKq => ?_)
    rotate_left
    · simp only [List.getElem?_toArray, List.getElem?_cons_succ, List.getElem?_cons_zero]; rfl
    go_simp
    refine hKq.out _ _ (((BT.out.drew.here B5.out).alloc _).three.2.1) (fun hHeld => ?_)
    clear hKq Kq
    (try simp only [Act.put, List.setIfInBounds_toArray, List.set_cons_zero, List.set_cons_succ])
    refine PX.wpAnyX_one (i := 7) (o := ?_) (by kernel_rfl) ?_ (fun Kq hKq => ?_)
    rotate_left
    · simp only [List.getElem?_toArray, List.getElem?_cons_succ, List.getElem?_cons_zero]; rfl
    refine PX.step_append_run _ _ _ _ (by rfl) (by rfl) R6.out ?_
    refine hKq.out _ _ (hb6.out.three.2.1) (fun hHeld => ?_)
    clear hKq Kq
    (try simp only [Act.put, List.setIfInBounds_toArray, List.set_cons_zero, List.set_cons_succ])
    refine PX.wpAnyX_one (i := 8) (o := ?_) (by kernel_rfl) ?_ (fun Kq hKq => ?_)
    rotate_left
    · simp only [List.getElem?_toArray, List.getElem?_cons_succ, List.getElem?_cons_zero]; rfl
    go_simp
    refine hKq.out _ _ (by assumption) (fun hHeld => ?_)
    clear hKq Kq
    (try simp only [Act.put, List.setIfInBounds_toArray, List.set_cons_zero, List.set_cons_succ])
    refine PX.wpAnyX_last (o := ?_) (by kernel_rfl) ?_ (fun Kq hKq => ?_)
    rotate_left
    · simp only [List.getElem?_toArray, List.getElem?_cons_succ, List.getElem?_cons_zero]; rfl
    go_simp
    refine hKq.out _ _ ?_
    clear hKq Kq
    (try simp only [Act.put, List.setIfInBounds_toArray, List.set_cons_zero, List.set_cons_succ])
    refine PX.wpAnyX_done (by kernel_rfl) ?_ _
    have BT7 : Hid (Bx (w6.setCell ⟨w2.heap.size, 1, none⟩ (.slice (some ⟨g6b, 0, none⟩) K6.length cp6)) w2.heap.size [.slice x1 y1 u1, .slice (some ⟨g6b, 0, none⟩) K6.length cp6, .bool dd]) := hb6.out.set 1 _
    have BR7 : Hid (Bx (w6.setCell ⟨w2.heap.size, 1, none⟩ (.slice (some ⟨g6b, 0, none⟩) K6.length cp6)) (w.heap.size + 1) [.slice none 0 0, .slice none 0 0, .bool false]) := hr6.out.other _ (by show w2.heap.size ≠ w.heap.size + 1; have := HW01.out; have := HW12.out; omega) _
    have HB7 : Hid (Below w.heap.size w (w6.setCell ⟨w2.heap.size, 1, none⟩ (.slice (some ⟨g6b, 0, none⟩) K6.length cp6))) := hw6.out.setCell (p := ⟨w2.heap.size, 1, none⟩) (by show w.heap.size ≤ w2.heap.size; have := HW01.out; have := HW12.out; omega) _
    have PA7 : Hid (Parts w1.heap.size (w6.setCell ⟨w2.heap.size, 1, none⟩ (.slice (some ⟨g6b, 0, none⟩) K6.length cp6)) (.slice x1 y1 u1) (.slice (some ⟨g6b, 0, none⟩) K6.length cp6) H K6) := P6'.out.store ⟨w2.heap.size, 1, none⟩ AV6.out _
    generalize w6.setCell ⟨w2.heap.size, 1, none⟩ (.slice (some ⟨g6b, 0, none⟩) K6.length cp6) = W7 at *
    refine NoPanic.normal ?_
    obtain ⟨t0, t1, t2⟩ := BT7.out.three
    obtain ⟨q0, q1, q2⟩ := BR7.out.three
    have f0 := BR7.out.frozen 0
    have f1 := BR7.out.frozen 1
    have f2 := BR7.out.frozen 2
    have hRT : w.heap.size + 1 < w2.heap.size := Nat.lt_of_lt_of_le HW01.out HW12.out
    go_wp2_with fail
    have z := ((BR7.out.set 0 (.slice x1 y1 u1)).set 1 (.slice (some ⟨g6b, 0, none⟩) K6.length cp6)).set 2 (.bool dd)
    obtain ⟨z0, z1, z2⟩ := z.three
    have hl : w.heap.size + 1 < w1.heap.size := HW01.out
    exact bodyPost_ret (v := .tuple #[.agg #[.slice x1 y1 u1, .slice (some ⟨g6b, 0, none⟩) K6.length cp6, .bool dd], .int .i64 0]) (by simp [results, Try.results36, go_sem, z0, z1, z2]) rfl
      ⟨_, rfl, ((((PA7.out.setCell ⟨w.heap.size + 1, 0, none⟩ hl _).setCell ⟨w.heap.size + 1, 1, none⟩ hl _).setCell ⟨w.heap.size + 1, 2, none⟩ hl _).mono (by omega : w.heap.size ≤ w1.heap.size)).dev (D := DK.put D at_ l) HHl.out HK6.out dd HD.out,
        ((HB7.out.setCell (p := ⟨w.heap.size + 1, 0, none⟩) (Nat.le_succ _) _).setCell (p := ⟨w.heap.size + 1, 1, none⟩) (Nat.le_succ _) _).setCell (p := ⟨w.heap.size + 1, 2, none⟩) (Nat.le_succ _) _⟩
end Go.Proofs.Ytnhfkfihlkbkfaa.PW

namespace Go.Proofs.Ytnhfkfihlkbkfaa.PW
open Go.RowKit
open DK (Dv)
set_option linter.unusedVariables false
set_option maxRecDepth 100000

/-- The function value: is a write of that place? -/
theorem ofPlace_any (m at_ : Int) (x : Option Addr) (y u gA : Nat) (w : World) (hA : w.cell? ⟨gA, 0, none⟩ = some (.int .i64 at_)) (hlt : gA < w.heap.size) :
    Calls Try.prog 67 #[.agg #[.int .i64 m, .slice x y u], .pointer (some ⟨gA, 0, none⟩)] w fun e w' => e = .returned (.bool (m == at_)) ∧ Below w.heap.size w w' := by
  go_enter Try.func67, Try.ntmps67
  go_wp2_with fail
  go_ret
  exact ⟨rfl, (Below.refl _ _).alloc (Nat.le_refl _) _⟩

set_option maxRecDepth 100000 in
set_option maxHeartbeats 1000000 in
/-- 'slices.IndexFunc': the first of that place. -/
theorem index_any (a : Option Addr) (n c : Nat) (K : List Wr) (at_ : Int) (gA : Nat) (w : World) (hr : Rws w.heap.size w a n c K) (hA : w.cell? ⟨gA, 0, none⟩ = some (.int .i64 at_)) (hlt : gA < w.heap.size) :
    Calls Try.prog 80 #[.slice a n c, .func (.func 67) #[] #[.pointer (some ⟨gA, 0, none⟩)]] w fun e w' => ∃ r : Int, e = .returned (.int .i64 r) ∧
      ((r = -1 ∧ ∀ k, k < n → (K.getD k Wr.nil).n ≠ at_) ∨ ∃ i : Nat, i < n ∧ r = (i : Int) ∧ (K.getD i Wr.nil).n = at_ ∧ ∀ k, k < i → (K.getD k Wr.nil).n ≠ at_) ∧ Below w.heap.size w w' := by
  have hs := hr.small
  have hf := hr.fits
  have hl := hr.long
  unfold maxLen at hs
  have hnc : n ≤ c := by omega
  have CP : Hid (∀ m x y u w1, Below w.heap.size w w1 → Calls Try.prog 67 #[.agg #[.int .i64 m, .slice x y u], .pointer (some ⟨gA, 0, none⟩)] w1 fun e w' => e = .returned (.bool (m == at_)) ∧ Below w1.heap.size w1 w') := fun m x y u w1 h =>
    ofPlace_any m at_ x y u gA w1 ((h.cell (p := ⟨gA, 0, none⟩) hlt).trans hA) (Nat.lt_of_lt_of_le hlt h.size)
  have Hr := Lib.hid hr
  have HL := Lib.hid hl
  clear hr hf hl hA hlt
  go_enter Try.func80, Try.ntmps80
  go_wp2_with fail
  go_loopw [8] (fun i wr => ∃ k : Nat, k ≤ n ∧ i = .int .i64 k ∧ Hid (∀ j, j < k → (K.getD j Wr.nil).n ≠ at_) ∧ Hid (Below w.heap.size w wr)) (fun i _ => n - (intOf i).toNat)
  case atStart => exact ⟨0, by omega, rfl, (fun j hj => absurd hj (Nat.not_lt_zero _) : ∀ j, j < 0 → _), Below.refl _ _⟩
  case round =>
    obtain ⟨k, hk, rfl, HG, KB⟩ := hrel
    by_cases hlt : k < n
    · obtain ⟨b, off, z, xa, xlen, xcap, xl, rfl, hbB, hx, hcell, hcell2, hxr⟩ := (Hr.out.below KB.out).at k (by rw [← HL.out]; exact hlt)
      have CP1 := Lib.hid (CP.out z xa xlen xcap wr KB.out)
      have HX : Hid ((K.getD k Wr.nil).n = z) := by show _ = _; rw [hx]
      have Hk := Lib.hid hlt
      clear hxr hx
      by_cases he : z = at_
      · have e0 : (z == at_) = true := by rw [beq_iff_eq]; exact he
        rw [e0] at CP1
        have HE := Lib.hid he
        clear he e0
        go_wp2_with fail
        refine CP1.out.mono ?_
        rintro e w2 ⟨rfl, b2⟩
        have B2 := Lib.hid (thence KB.out b2 (Nat.le_refl _))
        clear b2
        go_wp2_with fail
        try rw [Exit.noGoto_ret]
        go_ret
        exact ⟨_, rfl, .inr ⟨k, Hk.out, rfl, by rw [HX.out]; exact HE.out, HG.out⟩, B2.out⟩
      · have e0 : (z == at_) = false := by rw [beq_eq_false_iff_ne]; exact he
        rw [e0] at CP1
        have HE := Lib.hid he
        clear he e0
        go_wp2_with fail
        refine CP1.out.mono ?_
        rintro e w2 ⟨rfl, b2⟩
        have B2 := Lib.hid (thence KB.out b2 (Nat.le_refl _))
        clear b2
        go_wp2_with fail
        go_roundw
        case rel =>
          refine ⟨k + 1, by have := Hk.out; omega, by go_num, fun j hj => ?_, B2.out⟩
          rcases Nat.lt_or_ge j k with h | h
          · exact HG.out j h
          · obtain rfl : j = k := by omega
            rw [HX.out]; exact HE.out
        case measure => have := Hk.out; simp [intOf]; omega
    · obtain rfl : k = n := by omega
      go_wp2_with fail
      try rw [Exit.noGoto_ret]
      go_ret
      exact ⟨_, rfl, .inl ⟨rfl, HG.out⟩, KB.out⟩

/-! Lists of writes from which some are struck, in place. -/
def filt (at_ : Int) (K : List Wr) : List Wr := K.filter fun x => decide (x.n ≠ at_)
theorem wlist_filt (at_ : Int) (K : List Wr) : wlist (filt at_ K) = (wlist K).filter fun p => decide (p.1 ≠ at_) := by
  unfold wlist filt
  rw [List.filter_map]
  rfl
theorem filt_all {at_ : Int} {K : List Wr} (h : ∀ k, k < K.length → (K.getD k Wr.nil).n ≠ at_) : filt at_ K = K := by
  unfold filt
  rw [List.filter_eq_self]
  intro x hx
  obtain ⟨i, hi, rfl⟩ := List.mem_iff_getElem.1 hx
  have := h i hi
  simpa [List.getD, hi] using this
structure Struck (at_ : Int) (K L : List Wr) (i j : Nat) : Prop where
  len : L.length = K.length
  le : i < j
  top : j ≤ K.length
  low : L.take i = filt at_ (K.take j)
  high : L.drop j = K.drop j
theorem filt_snoc (at_ : Int) (A : List Wr) (x : Wr) : filt at_ (A ++ [x]) = if x.n = at_ then filt at_ A else filt at_ A ++ [x] := by
  unfold filt
  rw [List.filter_append]
  split
  · next h => simp [h]
  · next h => simp [h]
theorem take_snoc' (K : List Wr) (j : Nat) (h : j < K.length) : K.take (j + 1) = K.take j ++ [K.getD j Wr.nil] := by
  rw [List.take_succ_eq_append_getElem h]
  simp [List.getD, h]
theorem Struck.start {at_ : Int} {K : List Wr} {i : Nat} (hi : i < K.length) (h : (K.getD i Wr.nil).n = at_) (hb : ∀ k, k < i → (K.getD k Wr.nil).n ≠ at_) : Struck at_ K K i (i + 1) := by
  refine ⟨rfl, Nat.lt_succ_self _, hi, ?_, rfl⟩
  rw [take_snoc' K i hi, filt_snoc, if_pos h, filt_all]
  intro k hk
  rw [List.length_take] at hk
  have := hb k (by omega)
  simp only [List.getD, List.getElem?_take] at this ⊢
  rwa [if_pos (by omega)]
theorem Struck.get {at_ : Int} {K L : List Wr} {i j : Nat} (h : Struck at_ K L i j) (hj : j < K.length) : L.getD j Wr.nil = K.getD j Wr.nil := by
  have := congrArg (fun M : List Wr => M[0]?) h.high
  simp only [List.getElem?_drop, Nat.add_zero] at this
  simp only [List.getD, this]
theorem Struck.keep {at_ : Int} {K L : List Wr} {i j : Nat} (h : Struck at_ K L i j) (hj : j < K.length) (hn : (K.getD j Wr.nil).n ≠ at_) : Struck at_ K (L.set i (K.getD j Wr.nil)) (i + 1) (j + 1) := by
  have hi : i < L.length := by rw [h.len]; have := h.le; omega
  refine ⟨by rw [List.length_set, h.len], by have := h.le; omega, hj, ?_, ?_⟩
  · rw [take_snoc' K j hj, filt_snoc, if_neg hn, ← h.low]
    rw [List.take_succ_eq_append_getElem (by rw [List.length_set]; exact hi), List.getElem_set_self, List.take_set_of_le (Nat.le_refl _)]
  · rw [List.drop_set_of_lt (by have := h.le; omega)]
    have := congrArg (List.drop 1) h.high
    simpa [List.drop_drop, Nat.add_comm] using this
theorem Struck.skip {at_ : Int} {K L : List Wr} {i j : Nat} (h : Struck at_ K L i j) (hj : j < K.length) (hn : (K.getD j Wr.nil).n = at_) : Struck at_ K L i (j + 1) := by
  refine ⟨h.len, by have := h.le; omega, hj, ?_, ?_⟩
  · rw [take_snoc' K j hj, filt_snoc, if_pos hn, h.low]
  · have := congrArg (List.drop 1) h.high
    simpa [List.drop_drop, Nat.add_comm] using this
theorem Struck.done {at_ : Int} {K L : List Wr} {i : Nat} (h : Struck at_ K L i K.length) : L.take i = filt at_ K := by
  rw [h.low, List.take_of_length_le (Nat.le_refl _)]

/-- A store of one write into a list of the call's own. -/
theorem wcells_set (L : List Wr) (i : Nat) (x : Wr) (hi : i < L.length) : ((wcells L).set (i * 2) (.int .i64 x.n)).set (i * 2 + 1) x.h.val = wcells (L.set i x) := by
  induction L generalizing i with
  | nil => simp at hi
  | cons y r ih =>
    have e : wcells (y :: r) = .int .i64 y.n :: y.h.val :: wcells r := rfl
    cases i with
    | zero => rfl
    | succ i =>
      have e1 : (i + 1) * 2 = i * 2 + 1 + 1 := by omega
      have e3 : (y :: r).set (i + 1) x = y :: r.set i x := rfl
      rw [e, e1, e3]
      show .int .i64 y.n :: y.h.val :: ((wcells r).set (i * 2) _).set (i * 2 + 1) _ = .int .i64 y.n :: y.h.val :: wcells (r.set i x)
      rw [ih i (by simpa using hi)]
theorem OwnW.stored {w : World} {base g cap n : Nat} {L : List Wr} (hn : n = L.length) (h : OwnW w base (.slice (some ⟨g, 0, none⟩) n cap) L) (i : Nat) (x : Wr) (hi : i < L.length) :
    OwnW ((w.setCell ⟨g, i * 2, none⟩ (.int .i64 x.n)).setCell ⟨g, i * 2 + 1, none⟩ x.h.val) base (.slice (some ⟨g, 0, none⟩) n cap) (L.set i x) := by
  subst hn
  unfold OwnW at h ⊢
  rw [List.length_set, ← wcells_set L i x hi]
  exact (World.ownsRow.stored (World.ownsRow.stored h (i * 2) (.int .i64 x.n)).1 (i * 2 + 1) x.h.val).1
theorem OwnW.cells {w : World} {base g cap n : Nat} {L : List Wr} (hn : n = L.length) (h : OwnW w base (.slice (some ⟨g, 0, none⟩) n cap) L) (i : Nat) (hi : i < L.length) :
    w.cell? ⟨g, i * 2, none⟩ = some (.int .i64 (L.getD i Wr.nil).n) ∧ w.cell? ⟨g, i * 2 + 1, none⟩ = some (L.getD i Wr.nil).h.val := by
  subst hn
  have := wcells_get L i hi
  rw [World.ownsRow.cellAt h (i * 2) (by omega), World.ownsRow.cellAt h (i * 2 + 1) (by omega)]
  exact this
theorem OwnW.frozen {w : World} {base g cap n : Nat} {L : List Wr} (hn : n = L.length) (h : OwnW w base (.slice (some ⟨g, 0, none⟩) n cap) L) (i : Nat) : w.frozen? ⟨g, i, none⟩ = false := by
  subst hn
  exact World.ownsRow.frozenAt h i
/-- 'clear(s[i:])', 's[:i]': what is left. -/
theorem clear_run (w : World) (base g cap : Nat) (L : List Wr) (h : OwnW w base (.slice (some ⟨g, 0, none⟩) L.length cap) L) (i : Nat) (hi : i < L.length) (T : TypeId) :
    ∃ w', (Builtin.clear_ #[35] T #[.slice (some ⟨g, i * 2, none⟩) (L.length - i) (cap - i)]).run Try.prog w = .ok (.tuple #[]) w' ∧ OwnW w' base (.slice (some ⟨g, 0, none⟩) i cap) (L.take i) ∧ w.grownBy w' (some g) := by
  rcases h.2 with ⟨h0, _⟩ | ⟨g', cap', cur, hv, hg, hh, hnc, hcm, hcs, htk⟩
  · cases h0
  · injection hv with hv1 _ hv2
    injection hv1 with hv1
    injection hv1 with hv1
    subst hv1 hv2
    obtain ⟨z, hz, hzl, hz1⟩ : ∃ z : Value, (∀ w, (zeroValue 64).run Try.prog w = .ok z w) ∧ z.cells = #[.int .i64 0, .slice none 0 0] ∧ True := ⟨.agg #[.int .i64 0, .slice none 0 0], fun w => by kernel_rfl, rfl, trivial⟩
    have hzs : (Builtin.zeroCells z.cells (L.length - i)).toList.length = (L.length - i) * 2 := by rw [hzl]; simp [Builtin.zeroCells]
    have hz1 : ∀ v ∈ (Builtin.zeroCells z.cells (L.length - i)).toList, v.oneCell' = true := by
      rw [hzl]
      intro v hv
      simp only [Builtin.zeroCells, Array.mem_toList_iff] at hv
      obtain ⟨k, hk, rfl⟩ := Array.mem_iff_getElem.1 hv
      simp
      rcases (show k % 2 = 0 ∨ k % 2 = 1 by omega) with h | h <;> simp [h, Value.oneCell']
    obtain ⟨m, hm⟩ : ∃ m, L.length - i = m + 1 := ⟨L.length - i - 1, by omega⟩
    have hzz : ∀ w, (zeroValue 64).run Try.prog w = .ok z w := hz
    have hrun : ∀ (Zs : List Value), Zs = (Builtin.zeroCells z.cells (L.length - i)).toList → ∀ w', (storeCells ⟨g, i * 2, none⟩ Zs).run Try.prog w = .ok () w' →
        (Builtin.clear_ #[35] T #[.slice (some ⟨g, i * 2, none⟩) (L.length - i) (cap - i)]).run Try.prog w = .ok (.tuple #[]) w' := fun Zs hZ w' h1 => by
      subst hZ
      rw [hm] at h1 ⊢
      simp [Builtin.clear_, run_underlying Try.underlying35, hz, h1]
    generalize hZ : (Builtin.zeroCells z.cells (L.length - i)).toList = Zs at *
    have hst := run_storeCells_at (P := Try.prog) g (i * 2) 64 Zs 0 cur w hh (by rw [hzs]; simp only [Nat.add_zero]; rw [hcs]; have : L.length ≤ cap := hnc; omega) hz1
    simp only [Nat.add_zero] at hst
    have hcl : cur.toList.length = cap * 2 := by simpa using hcs
    refine ⟨w.setRow g (cur.toList.take (i * 2) ++ Zs ++ cur.toList.drop (i * 2 + Zs.length)).toArray, hrun Zs rfl _ hst, ⟨?_, .inr ⟨g, cap, _, by rw [List.length_take, Nat.min_eq_left (by omega)], hg, setRow_heap w g _ _ _ _ hh, ?_, hcm, ?_, ?_⟩⟩, ?_⟩
    · rw [wcells_length]
    · rw [List.length_take]; have : L.length ≤ cap := hnc; omega
    · simp only [List.size_toArray, List.length_append, List.length_take, List.length_drop, hzs, hcl]; have : L.length ≤ cap := hnc; omega
    · rw [List.length_take, Nat.min_eq_left (by omega : i ≤ L.length)]
      simp only [List.append_assoc]
      rw [List.take_append_of_le_length (by rw [List.length_take, hcl]; have : L.length ≤ cap := hnc; omega), List.take_take, Nat.min_self]
      have h1 : cur.toList.take (i * 2) = (wcells L).take (i * 2) := by rw [← htk, List.take_take, Nat.min_eq_left (by omega)]
      rw [h1]
      have h2 : wcells L = wcells (L.take i) ++ wcells (L.drop i) := by rw [← wcells_append, List.take_append_drop]
      rw [h2, List.take_append_of_le_length (by rw [wcells_length, List.length_take]; omega), List.take_of_length_le (by rw [wcells_length, List.length_take]; omega)]
    · exact ⟨rfl, rfl, rfl, by simp [World.setRow], fun k hk hne => setRow_other w g k _ (fun e => hne (by rw [e]))⟩

/-- A walk's step at a clear whose run is known. -/
theorem wpList_clear_run' {P : Program} {ops : Array Oper} {rest : List Oper} {o : Oper} {a : Act} {Q : Exit → Act → World → Prop} {w w' : World} {v' : Value} (hgd : o.guard = none) (s : Operand) (t1 : TypeId)
    (ho : o.op = .call { callee := .builtin .clear, args := #[s], argTypes := #[t1] }) (hrun : (Builtin.clear_ #[t1] o.type #[a.eval s]).run P w = .ok v' w')
    (h : wpList P ops Q rest (a.put o.dst v') w') : wpList P ops Q (o :: rest) a w := by
  refine wpList_plain hgd fun K hK => ?_
  unfold Oper.wp execOp
  simp only [ho, resolve, invoke, builtin, Sem.run_bind, Sem.run_pure, Result.andThen_ok, List.map_toArray, List.map_cons, List.map_nil, hrun]
  exact hK _ _ h

set_option maxRecDepth 100000 in
set_option maxHeartbeats 1000000 in
/-- 'slices.DeleteFunc' where one at least is struck. -/
theorem delete_some (lo : Nat) (g n c : Nat) (K : List Wr) (at_ : Int) (gA : Nat) (w : World) (h : GrowW lo w (.slice (some ⟨g, 0, none⟩) n c) K) (hn : n = K.length) (hA : w.cell? ⟨gA, 0, none⟩ = some (.int .i64 at_)) (hlt : gA < w.heap.size) (hne : gA ≠ g)
    (i0 : Nat) (hi0 : i0 < n) (hat : (K.getD i0 Wr.nil).n = at_) (hbf : ∀ k, k < i0 → (K.getD k Wr.nil).n ≠ at_)
    (CI : Calls Try.prog 80 #[.slice (some ⟨g, 0, none⟩) n c, .func (.func 67) #[] #[.pointer (some ⟨gA, 0, none⟩)]] w fun e w' => e = .returned (.int .i64 (i0 : Int)) ∧ Below w.heap.size w w') :
    Calls Try.prog 66 #[.slice (some ⟨g, 0, none⟩) n c, .func (.func 67) #[] #[.pointer (some ⟨gA, 0, none⟩)]] w fun e w' => ∃ m,
      e = .returned (.slice (some ⟨g, 0, none⟩) m c) ∧ m = (filt at_ K).length ∧ OwnW w' lo (.slice (some ⟨g, 0, none⟩) m c) (filt at_ K) ∧ w.grownBy w' (some g) := by
  have hrw := h.own.rws (fun x hx => (h.each x hx).rd)
  obtain ⟨_, _, hv, hrws⟩ := hrw
  injection hv with hv1 hvl hv2
  clear hvl
  subst hv1 hv2
  have hs := hrws.small
  have hf := hrws.fits
  unfold maxLen at hs
  have hnc : n ≤ c := by omega
  have hgw : g < w.heap.size := (h.lt g rfl).2
  have O := Lib.hid h.own
  have Hn := Lib.hid hn
  have CP : Hid (∀ m x y u w1, w1.cell? ⟨gA, 0, none⟩ = some (.int .i64 at_) → gA < w1.heap.size → Calls Try.prog 67 #[.agg #[.int .i64 m, .slice x y u], .pointer (some ⟨gA, 0, none⟩)] w1 fun e w' => e = .returned (.bool (m == at_)) ∧ Below w1.heap.size w1 w') := fun m x y u w1 h1 h2 => ofPlace_any m at_ x y u gA w1 h1 h2
  have HAK : Hid (∀ w1, w.grownBy w1 (some g) → w1.cell? ⟨gA, 0, none⟩ = some (.int .i64 at_) ∧ gA < w1.heap.size) := fun w1 hg => ⟨by rw [World.grownBy.cell_far hg ⟨gA, 0, none⟩ hlt (fun e => hne (by injection e))]; exact hA, Nat.lt_of_lt_of_le hlt hg.size⟩
  have ST := Lib.hid (Struck.start (by rw [← hn]; exact hi0) hat hbf)
  have CI' := Lib.hid CI
  have Hgw := Lib.hid hgw
  have HI0 := Lib.hid hi0
  clear h hrws hf hn hA hlt hne hat hbf CI hgw
  go_enter Try.func66, Try.ntmps66
  go_wp2_with fail
  refine CI'.out.mono ?_
  rintro e w1 ⟨rfl, b1⟩
  have B1 := Lib.hid b1
  clear b1 CI'
  have em : ((i0 : Int) == -1) = false := by rw [beq_eq_false_iff_ne]; omega
  go_wp2_with fail
  go_loopw [5, 6] (fun ii jj wr => ∃ (i j : Nat) (L : List Wr), i < n ∧ j ≤ n ∧ ii = .int .i64 i ∧ jj = .int .i64 j ∧ Hid (Struck at_ K L i j) ∧ Hid (OwnW wr lo (.slice (some ⟨g, 0, none⟩) n c) L) ∧ Hid (w.grownBy wr (some g))) (fun _ jj _ => n - (intOf jj).toNat)
  case atStart => exact ⟨i0, i0 + 1, K, hi0, by omega, rfl, by go_num, ST.out, ownsRow_grown O.out B1.out, grownBy_of_below _ B1.out⟩
  case round =>
    obtain ⟨i, j, L, hi, hj, rfl, rfl, SK, OW, GB⟩ := hrel
    by_cases hlt : j < n
    · have HLn : Hid (n = L.length) := by show _ = _; rw [SK.out.len]; exact Hn.out
      obtain ⟨cj0, cj1⟩ := OW.out.cells HLn.out j (by rw [← HLn.out]; exact hlt)
      have hget := SK.out.get (by rw [← Hn.out]; exact hlt)
      rw [hget] at cj0 cj1
      have HK : Hid ((K.getD j Wr.nil).n = at_ → Struck at_ K L i (j + 1)) := fun h => SK.out.skip (by rw [← Hn.out]; exact hlt) h
      have HS : Hid ((K.getD j Wr.nil).n ≠ at_ → Struck at_ K (L.set i (K.getD j Wr.nil)) (i + 1) (j + 1)) := fun h => SK.out.keep (by rw [← Hn.out]; exact hlt) h
      have HI1 : Hid (i + 1 < n) := by have := SK.out.le; show i + 1 < n; omega
      have hgr : g < wr.heap.size := Nat.lt_of_lt_of_le Hgw.out GB.out.size
      clear hget
      generalize K.getD j Wr.nil = y at *
      obtain ⟨z, xa, xlen, xcap, xl⟩ := y
      have cj1' : wr.cell? ⟨g, j * 2 + 1, none⟩ = some (.slice xa xlen xcap) := cj1
      clear cj1
      have al : Below wr.heap.size wr (wr.alloc (.cells [Value.int .i64 z, .slice xa xlen xcap].toArray 64)) := (Below.refl _ _).alloc (Nat.le_refl _) _
      have bx := Bx.new wr [.int .i64 z, .slice xa xlen xcap] 64
      have gb1 := grownBy_below GB.out al
      have CP1 := Lib.hid (CP.out z xa xlen xcap _ (HAK.out _ gb1).1 (HAK.out _ gb1).2)
      have BX := Lib.hid bx
      have AL := Lib.hid al
      have Hlt := Lib.hid hlt
      clear bx al gb1
      by_cases he : z = at_
      · have e0 : (z == at_) = true := by rw [beq_iff_eq]; exact he
        rw [e0] at CP1
        have HE := Lib.hid he
        clear he e0 HS
        go_wp2_with fail
        refine CP1.out.mono ?_
        rintro e w2 ⟨rfl, b2⟩
        have B2 : Hid (Below wr.heap.size wr w2) := thence AL.out b2 (Nat.le_refl _)
        clear b2
        go_wp2_with fail
        go_roundw
        case rel => exact ⟨i, j + 1, L, hi, by have := Hlt.out; omega, rfl, by go_num, HK.out HE.out, ownsRow_grown OW.out B2.out, grownBy_below GB.out B2.out⟩
        case measure => have := Hlt.out; simp [intOf]; omega
      · have e0 : (z == at_) = false := by rw [beq_eq_false_iff_ne]; exact he
        rw [e0] at CP1
        have HE := Lib.hid he
        clear he e0 HK
        go_wp2_with fail
        refine CP1.out.mono ?_
        rintro e w2 ⟨rfl, b2⟩
        obtain ⟨y0, y1⟩ := (BX.out.here b2).two
        have B2 : Hid (Below wr.heap.size wr w2) := thence AL.out b2 (Nat.le_refl _)
        have ow2 : OwnW w2 lo (.slice (some ⟨g, 0, none⟩) n c) L := ownsRow_grown OW.out B2.out
        have hiL : i < L.length := by rw [← HLn.out]; exact hi
        obtain ⟨ci0, ci1⟩ := ow2.cells HLn.out i hiL
        have fi0 := ow2.frozen HLn.out (i * 2)
        have fi1 := ow2.frozen HLn.out (i * 2 + 1)
        have OW3 := Lib.hid (ow2.stored HLn.out i ⟨z, ⟨xa, xlen, xcap, xl⟩⟩ hiL)
        have GB3 := Lib.hid (grownBy_setCell (grownBy_setCell (grownBy_below GB.out B2.out) (i * 2) (.int .i64 z)) (i * 2 + 1) (.slice xa xlen xcap))
        generalize (L.getD i Wr.nil).n = oz at *
        generalize hov : (L.getD i Wr.nil).h.val = ov at *
        have hyy : ∃ p q r, ov = .slice p q r := ⟨_, _, _, hov.symm⟩
        obtain ⟨p, q, r, rfl⟩ := hyy
        have ne1 : g ≠ wr.heap.size := by omega
        clear b2 ow2 hov hiL
        go_wp2_with fail
        go_roundw
        case rel => exact ⟨i + 1, j + 1, _, HI1.out, by have := Hlt.out; omega, by go_num, by go_num, HS.out HE.out, OW3.out, GB3.out⟩
        case measure => have := Hlt.out; simp [intOf]; omega
    · obtain rfl : j = n := by omega
      have HLn : Hid (j = L.length) := by show _ = _; rw [SK.out.len]; exact Hn.out
      have hk : j = K.length := Hn.out
      have sk := SK.out
      rw [hk] at sk
      have hdone := sk.done
      have hL := OW.out
      rw [HLn.out] at hL
      obtain ⟨w5, r5, o5, g5⟩ := clear_run wr lo g c L hL i (by rw [← HLn.out]; exact hi) 0
      rw [← HLn.out] at r5
      have R5 := Lib.hid r5
      rw [hdone] at o5
      have hm : i = (filt at_ K).length := by rw [← hdone, List.length_take, Nat.min_eq_left (by rw [← HLn.out]; omega)]
      have HM := Lib.hid hm
      have O5 := Lib.hid o5
      have G5 := Lib.hid (grownBy_trans GB.out g5)
      have i1 : (i : Int) < (j : Int) := by omega
      have i2 : (i : Int) < (c : Int) := by omega
      have i3 : (j : Int) ≤ (c : Int) := by omega
      clear r5 o5 g5 hL hk sk hdone hm
      go_wp2_with (refine wpList_clear_run' rfl (.tmp 38) _ rfl R5.out ?_)
      go_ret
      exact ⟨i, rfl, HM.out, O5.out, G5.out⟩

theorem least {P : Nat → Prop} : ∀ n, (∃ k, k < n ∧ P k) → ∃ k, k < n ∧ P k ∧ ∀ j, j < k → ¬ P j := by
  intro n
  induction n with
  | zero => rintro ⟨k, hk, _⟩; omega
  | succ n ih =>
    rintro ⟨k, hk, hp⟩
    by_cases h : ∃ k, k < n ∧ P k
    · obtain ⟨k, h1, h2, h3⟩ := ih h
      exact ⟨k, by omega, h2, h3⟩
    · have hkn : k = n := by
        rcases Nat.lt_or_ge k n with h1 | h1
        · exact absurd ⟨k, h1, hp⟩ h
        · omega
      subst hkn
      exact ⟨k, by omega, hp, fun j hj hpj => h ⟨j, hj, hpj⟩⟩

set_option maxRecDepth 100000 in
/-- 'slices.DeleteFunc': the writes of one place are struck, in place. -/
theorem delete_any (lo : Nat) (a : Option Addr) (n c : Nat) (K : List Wr) (at_ : Int) (gA : Nat) (w : World) (h : GrowW lo w (.slice a n c) K) (hA : w.cell? ⟨gA, 0, none⟩ = some (.int .i64 at_)) (hlt : gA < w.heap.size) (hne : (Value.slice a n c).ownBlock ≠ some gA) :
    Calls Try.prog 66 #[.slice a n c, .func (.func 67) #[] #[.pointer (some ⟨gA, 0, none⟩)]] w fun e w' => ∃ m,
      e = .returned (.slice a m c) ∧ OwnW w' lo (.slice a m c) (filt at_ K) ∧ w.grownBy w' (Value.slice a n c).ownBlock := by
  obtain ⟨a0, c0, hv, hrws⟩ := h.rws
  have hnK : n = K.length := by injection hv
  injection hv with hv1 hvl hv2
  clear hvl
  subst hv1 hv2
  subst hnK
  have CI := index_any a K.length c K at_ gA w hrws hA hlt
  by_cases hex : ∃ k, k < K.length ∧ (K.getD k Wr.nil).n = at_
  · obtain ⟨i0, hi0, hat, hbf⟩ := least K.length hex
    obtain ⟨g, cp, hv, _, _, _, _⟩ := h.own.form (by omega)
    injection hv with hv1 hvl hv2
    clear hvl
    subst hv1 hv2
    refine (delete_some lo g K.length c K at_ gA w h rfl hA hlt (fun e => hne (by rw [e]; rfl)) i0 hi0 hat hbf (CI.mono ?_)).mono fun e w' ⟨m, he, hm, ho, hg⟩ => ⟨m, he, ho, hg⟩
    rintro e w' ⟨r, rfl, hr, hb⟩
    refine ⟨?_, hb⟩
    rcases hr with ⟨_, hno⟩ | ⟨i, hi, rfl, hi2, hi3⟩
    · exact absurd hat (hno i0 hi0)
    · have : i = i0 := by
        rcases Nat.lt_trichotomy i i0 with h | h | h
        · exact absurd hi2 (hbf i h)
        · exact h
        · exact absurd hat (hi3 i0 h)
      rw [this]
  · have hno : ∀ k, k < K.length → (K.getD k Wr.nil).n ≠ at_ := fun k hk he => hex ⟨k, hk, he⟩
    have hf : filt at_ K = K := filt_all hno
    rw [hf]
    have CI' : Hid (Calls Try.prog 80 #[.slice a K.length c, .func (.func 67) #[] #[.pointer (some ⟨gA, 0, none⟩)]] w fun e w' => e = .returned (.int .i64 (-1)) ∧ Below w.heap.size w w') := CI.mono (by
      rintro e w' ⟨r, rfl, hr, hb⟩
      refine ⟨?_, hb⟩
      rcases hr with ⟨rfl, _⟩ | ⟨i, hi, rfl, hi2, _⟩
      · rfl
      · exact absurd hi2 (hno i hi))
    have O := Lib.hid h.own
    clear CI hex hno hf h hrws hA hlt hne
    generalize K.length = n at *
    go_enter Try.func66, Try.ntmps66
    go_wp2_with fail
    refine CI'.out.mono ?_
    rintro e w1 ⟨rfl, b1⟩
    have B1 := Lib.hid b1
    clear b1
    go_wp2_with fail
    go_ret
    exact ⟨n, rfl, ownsRow_grown O.out B1.out, grownBy_of_below _ B1.out⟩

/-- One block is another slice. -/
theorem Parts.setBlock {lo : Nat} {w : World} {gv n c : Nat} {vw : Value} {H : List Hd} {K : List Wr} (P : Parts lo w (.slice (some ⟨gv, 0, none⟩) n c) vw H K) (hn : n = H.length) (m : Nat) (x : Hd) (it : Item lo w x)
    (h1 : ∀ b, x.a = some b → x.l ≠ [] → gv ≠ b.block) (h2 : ∀ b, x.a = some b → x.l ≠ [] → vw.ownBlock ≠ some b.block) : Parts lo (w.setCell ⟨gv, m, none⟩ x.val) (.slice (some ⟨gv, 0, none⟩) n c) vw (H.set m x) K := by
  have hg : w.grownBy (w.setCell ⟨gv, m, none⟩ x.val) (some gv) := ⟨rfl, rfl, rfl, by simp [World.setCell], fun k hk hne => Below.heap_setCell _ _ _ _ (fun e => hne (by rw [e]))⟩
  have mem : ∀ z ∈ H.set m x, z = x ∨ z ∈ H := fun z hz => (by
    rcases List.mem_or_eq_of_mem_set hz with h | h
    · exact .inr h
    · exact .inl h)
  refine ⟨⟨OwnS.stored hn P.bl.own m x, fun z hz => ?_, fun z hz b hb hl e => ?_⟩, P.wa.other hg (fun k e e2 => ?_) (fun z hz b hb hl e => ?_), ⟨fun k e e2 => P.cr.rows k e e2, fun z hz b hb hl e => ?_, P.cr.right⟩⟩
  · rcases mem z hz with rfl | h
    · exact it.grown hg (fun b hb hl e => h1 b hb hl (by injection e))
    · exact (P.bl.each z h).grown hg (fun b hb hl e => P.bl.apart z h b hb hl e)
  · rcases mem z hz with rfl | h
    · exact h1 b hb hl (by injection e)
    · exact P.bl.apart z h b hb hl e
  · exact P.cr.rows k e2 e
  · exact P.cr.right z.h (List.mem_map.2 ⟨z, hz, rfl⟩) b hb hl e
  · rcases mem z hz with rfl | h
    · exact h2 b hb hl e
    · exact P.cr.left z h b hb hl e
/-- The writes of one place are struck. -/
theorem Parts.strike {lo : Nat} {w w' : World} {vb : Value} {a : Option Addr} {n m c : Nat} {H : List Hd} {K : List Wr} {at_ : Int} (P : Parts lo w vb (.slice a n c) H K) (o : OwnW w' lo (.slice a m c) (filt at_ K)) (hg : w.grownBy w' (Value.slice a n c).ownBlock) :
    Parts lo w' vb (.slice a m c) H (filt at_ K) := by
  have eb : (Value.slice a m c).ownBlock = (Value.slice a n c).ownBlock := by cases a <;> rfl
  refine ⟨P.bl.other hg P.cr.rows P.cr.left, ⟨o, fun z hz => (P.wa.each z ((List.mem_filter.1 hz).1)).grown hg (fun b hb hl e => P.wa.apart z.h (List.mem_map.2 ⟨z, (List.mem_filter.1 hz).1, rfl⟩) b hb hl e), fun z hz b hb hl e => ?_⟩, ⟨fun k e e2 => P.cr.rows k e (by rw [← eb]; exact e2), fun z hz b hb hl e => P.cr.left z hz b hb hl (by rw [← eb]; exact e), fun z hz b hb hl e => ?_⟩⟩
  · obtain ⟨y, hy, rfl⟩ := List.mem_map.1 hz
    exact P.wa.apart y.h (List.mem_map.2 ⟨y, (List.mem_filter.1 hy).1, rfl⟩) b hb hl (by rw [← eb]; exact e)
  · obtain ⟨y, hy, rfl⟩ := List.mem_map.1 hz
    exact P.cr.right y.h (List.mem_map.2 ⟨y, (List.mem_filter.1 hy).1, rfl⟩) b hb hl e
/-- Nothing waits any more. -/
theorem Parts.calm {lo : Nat} {w : World} {vb vw : Value} {H : List Hd} {K : List Wr} (P : Parts lo w vb vw H K) : Parts lo w vb (.slice none 0 0) H [] :=
  ⟨P.bl, GrowW.nil _ _, ⟨(fun _ _ h => by cases h), (fun _ _ _ _ _ h => by cases h), (fun _ h => nomatch h)⟩⟩
end Go.Proofs.Ytnhfkfihlkbkfaa.PW

namespace Go.Proofs.Ytnhfkfihlkbkfaa.PW
open Go.RowKit
open DK (Dv)
set_option linter.unusedVariables false
set_option maxRecDepth 100000
set_option linter.unusedSimpArgs false

def fuaDev (D : Dv) (at_ : Int) (l : List Nat) : Dv := if DK.wcode D at_ l = 0 then DK.sure D at_ l else DK.Dv.nil

set_option maxRecDepth 100000 in
set_option maxHeartbeats 1000000 in
theorem fua_any (a : Option Addr) (n c : Nat) (a' : Option Addr) (n' c' : Nat) (D : Dv) (at_ : Int) (b : Option Addr) (len cap : Nat) (l : List Nat) (w : World) (hr : DevAt w.heap.size w a n c a' n' c' D) (hf : Fit D) (hq : Rd w.heap.size w b len cap l) (hll : l.length ≤ 100000) :
    Calls Try.prog 38 #[.agg #[.slice a n c, .slice a' n' c', .bool D.dead], .int .i64 at_, .slice b len cap] w (NewDev w (fuaDev D at_ l) (DK.wcode D at_ l)) := by
  have hb1 : Below w.heap.size w (((w.alloc (.cells #[.slice a n c, .slice a' n' c', .bool D.dead] 37)).alloc (.cells #[.int .i64 at_] 3)).alloc (.cells #[.slice none 0 0, .slice none 0 0, .bool false] 37)) := (((Below.refl _ _).alloc (Nat.le_refl _) _).alloc (by simp) _).alloc (by simp; omega) _
  have bD := ((Bx.new w [.slice a n c, .slice a' n' c', .bool D.dead] 37).alloc (.cells #[.int .i64 at_] 3)).alloc (.cells #[.slice none 0 0, .slice none 0 0, .bool false] 37)
  have bA := (Bx.new (w.alloc (.cells #[.slice a n c, .slice a' n' c', .bool D.dead] 37)) [.int .i64 at_] 3).alloc (.cells #[.slice none 0 0, .slice none 0 0, .bool false] 37)
  have bR := Bx.new ((w.alloc (.cells #[.slice a n c, .slice a' n' c', .bool D.dead] 37)).alloc (.cells #[.int .i64 at_] 3)) [.slice none 0 0, .slice none 0 0, .bool false] 37
  simp only [World.size_alloc, Nat.add_assoc] at bA bR
  have lsm : len ≤ maxLen := Nat.le_trans (by have := hq.long; have := hq.fits; omega) hq.small
  have CK := Lib.hid (writable_any a n c a' n' c' D at_ b len cap l _ (hr.here hb1) hq.long lsm)
  have CT : Hid (∀ w1, Below w.heap.size w w1 → Calls Try.prog 64 #[.agg #[.slice a n c, .slice a' n' c', .bool D.dead]] w1 (TheDev w1 D)) := fun w1 h => twin_any a n c a' n' c' D w1 (hr.here h) hf
  have CC : Hid (∀ w1, Below w.heap.size w w1 → Calls Try.prog 65 #[.slice b len cap] w1 fun e w' => ∃ a5 c5, e = .returned (.slice a5 len c5) ∧ Item w1.heap.size w' ⟨a5, len, c5, l⟩ ∧ Below w1.heap.size w1 w') := fun w1 h =>
    (clone_any b len cap l w1 (hq.here h) hll (Nat.le_refl _)).mono fun e w' ⟨a5, c5, he, ho, hrd, hb⟩ => ⟨a5, c5, he, Item.own ho hrd, hb⟩
  have HB := Lib.hid hb1
  have BD := Lib.hid bD
  have BA := Lib.hid bA
  have BR := Lib.hid bR
  have Hn := Lib.hid hr.long
  have hs := hr.small.1
  unfold maxLen at hs
  clear hb1 bD bA bR hr hf hq hll lsm
  by_cases h0 : DK.wcode D at_ l = 0
  case neg =>
    have hd : fuaDev D at_ l = DK.Dv.nil := by simp [fuaDev, h0]
    rw [hd]
    have e0 : ((DK.wcode D at_ l : Int) == 0) = false := by rw [beq_eq_false_iff_ne]; omega
    clear hd h0 Hn CT CC
    generalize DK.wcode D at_ l = q at *
    generalize D.dead = dd at *
    go_enter Try.func38, Try.ntmps38
    go_wp2_with fail
    refine CK.out.mono ?_
    rintro e w1 ⟨rfl, b1⟩
    have bR := BR.out.here b1
    have hB := thence HB.out b1 (Nat.le_refl _)
    obtain ⟨q0, q1, q2⟩ := bR.three
    have f0 := bR.frozen 0
    have f1 := bR.frozen 1
    have f2 := bR.frozen 2
    have FIN := Lib.hid (no_dev_end _ _ _ bR hB (by omega))
    clear hB b1 bR
    go_wp2_with fail
    obtain ⟨z0, z1, z2⟩ := FIN.out.1.three
    exact bodyPost_ret (v := .tuple #[noDev, .int .i64 (q : Int)]) (by simp [results, Try.results38, go_sem, noDev, z0, z1, z2]) rfl ⟨_, rfl, OwnDev.nil _ _, FIN.out.2⟩
  have hm : DK.has D at_ = true := by
    rcases Bool.eq_false_or_eq_true (DK.has D at_) with h | h
    · exact h
    · exfalso; revert h0; simp [DK.wcode, h]; split <;> simp
  obtain ⟨hm1, hm2⟩ := DK.has_iff.1 hm
  obtain ⟨m, rfl⟩ := Int.eq_ofNat_of_zero_le hm1
  have hmn : m < n := by have := Hn.out.1; omega
  have hd : fuaDev D (m : Int) l = DK.sure D (m : Int) l := by simp [fuaDev, h0]
  rw [h0, hd]
  rw [h0] at CK
  clear hd h0 hm hm1 hm2
  obtain ⟨dd, hdd⟩ : ∃ dd, dd = D.dead := ⟨_, rfl⟩
  have HD := Lib.hid hdd
  rw [← hdd] at CK CT HB BD BA BR ⊢
  clear hdd
  go_enter Try.func38, Try.ntmps38
  go_wp2_with fail
  refine CK.out.mono ?_
  rintro e w1 ⟨rfl, b1⟩
  have bR := BR.out.here b1
  have bA := BA.out.here b1
  have hB := thence HB.out b1 (Nat.le_refl _)
  obtain ⟨d0, d1, d2⟩ := (BD.out.here b1).three
  have CT1 := Lib.hid (CT.out _ hB)
  have BR1 := Lib.hid bR
  have BA1 := Lib.hid bA
  have HB1 := Lib.hid hB
  clear hB b1 bR bA CK CT
  go_wp2_with fail
  refine CT1.out.mono ?_
  rintro e w2 ⟨v, rfl, od, b2⟩
  obtain ⟨x1, y1, u1, x2, y2, u2, H, K, rfl, pa, hH, hK, hy1, hy2⟩ := od.parts
  have hyn : y1 = n := by rw [hy1, ← lists_length, hH, Hn.out.1]
  obtain ⟨gv, cp, hgv, hgv1, hgv2, hgv3, hgv4⟩ := pa.bl.own.form (by rw [← hy1]; omega)
  obtain ⟨rfl, rfl⟩ : x1 = some ⟨gv, 0, none⟩ ∧ u1 = cp := by injection hgv with p q r; exact ⟨p, r⟩
  subst hyn
  have HHl := Lib.hid hH
  have HKl := Lib.hid hK
  have HY1 := Lib.hid hy1
  have HGV1 := Lib.hid hgv1
  rw [← HD.out]
  have bR := BR1.out.here b2
  have bA := BA1.out.here b2
  have hB2 := thence HB1.out b2 (Nat.le_refl _)
  have bT := Bx.new w2 [.slice (some ⟨gv, 0, none⟩) y1 u1, .slice x2 y2 u2, .bool dd] 37
  have al : Below w2.heap.size w2 (w2.alloc (.cells [Value.slice (some ⟨gv, 0, none⟩) y1 u1, .slice x2 y2 u2, .bool dd].toArray 37)) := (Below.refl _ _).alloc (Nat.le_refl _) _
  have PA : Hid (Parts w1.heap.size (w2.alloc (.cells [Value.slice (some ⟨gv, 0, none⟩) y1 u1, .slice x2 y2 u2, .bool dd].toArray 37)) (.slice (some ⟨gv, 0, none⟩) y1 u1) (.slice x2 y2 u2) H K) := pa.here al
  have BT := Lib.hid bT
  have BR2 : Hid (Bx (w2.alloc (.cells [Value.slice (some ⟨gv, 0, none⟩) y1 u1, .slice x2 y2 u2, .bool dd].toArray 37)) (w.heap.size + 2) [.slice none 0 0, .slice none 0 0, .bool false]) := bR.here al
  have BA2 : Hid (Bx (w2.alloc (.cells [Value.slice (some ⟨gv, 0, none⟩) y1 u1, .slice x2 y2 u2, .bool dd].toArray 37)) (w.heap.size + 1) [.int .i64 (m : Int)]) := bA.here al
  have HB2 : Hid (Below w.heap.size w (w2.alloc (.cells [Value.slice (some ⟨gv, 0, none⟩) y1 u1, .slice x2 y2 u2, .bool dd].toArray 37))) := thence hB2 al (Nat.le_refl _)
  have HW12 : Hid (w1.heap.size ≤ w2.heap.size) := b2.size
  have AV : Hid (Avoid w2.heap.size (.slice (some ⟨gv, 0, none⟩) y1 u1) (.slice x2 y2 u2) H K) := pa.avoid (.inr (Nat.le_refl _))
  have HWa : Hid ((w2.alloc (.cells [Value.slice (some ⟨gv, 0, none⟩) y1 u1, .slice x2 y2 u2, .bool dd].toArray 37)).heap.size = w2.heap.size + 1) := by show _ = _; simp
  have HW01 : Hid (w.heap.size + 2 < w1.heap.size) := BR1.out.lt
  have HRW : Hid (∀ e, (Value.slice x2 y2 u2).ownBlock = some e → w1.heap.size ≤ e ∧ e < w2.heap.size) := fun e he => pa.wa.lt e he
  have HGV2 := Lib.hid hgv2
  clear bR bA hB2 bT al pa hH hK hy1 hy2 od b2 CT1 d0 d1 d2 hgv hgv1 hgv2 hgv3 hgv4
  go_wp2_with fail
  generalize hW3 : w2.alloc (.cells #[.slice (some ⟨gv, 0, none⟩) y1 u1, .slice x2 y2 u2, .bool dd] 37) = W3
  replace PA : Hid (Parts w1.heap.size W3 (.slice (some ⟨gv, 0, none⟩) y1 u1) (.slice x2 y2 u2) H K) := by rw [← hW3]; exact PA.out
  replace BT : Hid (Bx W3 w2.heap.size [.slice (some ⟨gv, 0, none⟩) y1 u1, .slice x2 y2 u2, .bool dd]) := by rw [← hW3]; exact BT.out
  replace BR2 : Hid (Bx W3 (w.heap.size + 2) [.slice none 0 0, .slice none 0 0, .bool false]) := by rw [← hW3]; exact BR2.out
  replace BA2 : Hid (Bx W3 (w.heap.size + 1) [.int .i64 (m : Int)]) := by rw [← hW3]; exact BA2.out
  replace HB2 : Hid (Below w.heap.size w W3) := by rw [← hW3]; exact HB2.out
  replace HWa : Hid (W3.heap.size = w2.heap.size + 1) := by rw [← hW3]; exact HWa.out
  clear hW3
  have gT : w2.heap.size < W3.heap.size := BT.out.lt
  have CC1 := Lib.hid (CC.out W3.drew HB2.out.drew)
  have hmi : (m : Int) < (y1 : Int) := by omega
  refine wp_region_noPanic ?_
  refine PX.wp_region_x (fun w' => w'.cell? ⟨w2.heap.size, 0, none⟩ = some (.slice (some ⟨gv, 0, none⟩) y1 u1) ∧ w'.cell? ⟨w.heap.size + 1, 0, none⟩ = some (.int .i64 (m : Int))) 6 (by kernel_rfl) ⟨BT.out.drew.three.1, BA2.out.drew.one⟩ (fun hHeld => ?_)
  refine PX.wpAnyX_take (i := 0) (oi := ?_) (v := ?_) ?_ (by kernel_rfl) (by kernel_rfl) (by kernel_rfl) (by kernel_rfl) (by kernel_rfl) (fun _ _ _ h => h) (Or.inl ⟨?_, ?_⟩) (by assumption) ?_
  rotate_left 2
  · simp only [List.getElem?_toArray, List.getElem?_cons_succ, List.getElem?_cons_zero]; rfl
  · rfl
  · intro w hSw; (try dsimp only at hSw); go_simp <;> with_reducible rfl
  (try simp only [Act.put, List.setIfInBounds_toArray, List.set_cons_zero, List.set_cons_succ])
  refine PX.wpAnyX_take (i := 1) (oi := ?_) (v := ?_) ?_ (by kernel_rfl) (by kernel_rfl) (by kernel_rfl) (by kernel_rfl) (by kernel_rfl) (fun _ _ _ h => h) (Or.inl ⟨?_, ?_⟩) (by assumption) ?_
  rotate_left 2
  · simp only [List.getElem?_toArray, List.getElem?_cons_succ, List.getElem?_cons_zero]; rfl
  · rfl
  · intro w hSw; (try dsimp only at hSw); go_simp <;> with_reducible rfl
  (try simp only [Act.put, List.setIfInBounds_toArray, List.set_cons_zero, List.set_cons_succ])
  refine PX.wpAnyX_take (i := 2) (oi := ?_) (v := ?_) ?_ (by kernel_rfl) (by kernel_rfl) (by kernel_rfl) (by kernel_rfl) (by kernel_rfl) (fun _ _ _ h => h) (Or.inl ⟨?_, ?_⟩) (by assumption) ?_
  rotate_left 2
  · simp only [List.getElem?_toArray, List.getElem?_cons_succ, List.getElem?_cons_zero]; rfl
  · rfl
  · intro w hSw; (try dsimp only at hSw); go_simp <;> with_reducible rfl
  (try simp only [Act.put, List.setIfInBounds_toArray, List.set_cons_zero, List.set_cons_succ])
  refine PX.wpAnyX_take (i := 3) (oi := ?_) (v := ?_) ?_ (by kernel_rfl) (by kernel_rfl) (by kernel_rfl) (by kernel_rfl) (by kernel_rfl) (fun _ _ _ h => h) (Or.inl ⟨?_, ?_⟩) (by assumption) ?_
  rotate_left 2
  · simp only [List.getElem?_toArray, List.getElem?_cons_succ, List.getElem?_cons_zero]; rfl
  · rfl
  · intro w hSw; (try dsimp only at hSw); go_simp <;> with_reducible rfl
  (try simp only [Act.put, List.setIfInBounds_toArray, List.set_cons_zero, List.set_cons_succ])
  refine PX.wpAnyX_one (i := 4) (o := ?_) (by kernel_rfl) ?_ (fun Kq hKq => ?_)
  rotate_left
  · simp only [List.getElem?_toArray, List.getElem?_cons_succ, List.getElem?_cons_zero]; rfl
  go_simp
  refine CC1.out.mono ?_
  rintro e w5 ⟨a5, c5, rfl, it5, b5⟩
  have P5 : Hid (Parts w1.heap.size w5 (.slice (some ⟨gv, 0, none⟩) y1 u1) (.slice x2 y2 u2) H K) := (PA.out.here (Below.refl _ _).drew).here b5
  have I5 : Hid (Item W3.heap.size w5 ⟨a5, len, c5, l⟩) := it5
  have T5 := Lib.hid (BT.out.drew.here b5)
  have R5 := Lib.hid (BR2.out.drew.here b5)
  have A5 := Lib.hid (BA2.out.drew.here b5)
  have HB5 : Hid (Below w.heap.size w w5) := HB2.out.trans (((Below.refl _ _).drew.trans b5).mono HB2.out.size)
  have hmH : m < H.length := by rw [← HY1.out]; exact hmn
  have hcm := P5.out.bl.own.cell HY1.out m hmH
  have hfm := P5.out.bl.own.frozen HY1.out m
  generalize (H.getD m Hd.nil).val = ov at *
  clear it5 b5 hmH
  go_wp2_with fail
  refine hKq.out _ _ (⟨T5.out.three.1, A5.out.one⟩) (fun hHeld => ?_)
  clear hKq Kq
  (try simp only [Act.put, List.setIfInBounds_toArray, List.set_cons_zero, List.set_cons_succ])
  refine PX.wpAnyX_one (i := 5) (o := ?_) (by kernel_rfl) ?_ (fun Kq hKq => ?_)
  rotate_left
  · simp only [List.getElem?_toArray, List.getElem?_cons_succ, List.getElem?_cons_zero]; rfl
  go_simp
  refine hKq.out _ _ (by assumption) (fun hHeld => ?_)
  clear hKq Kq
  (try simp only [Act.put, List.setIfInBounds_toArray, List.set_cons_zero, List.set_cons_succ])
  refine PX.wpAnyX_last (o := ?_) (by kernel_rfl) ?_ (fun Kq hKq => ?_)
  rotate_left
  · simp only [List.getElem?_toArray, List.getElem?_cons_succ, List.getElem?_cons_zero]; rfl
  go_simp
  refine hKq.out _ _ ?_
  clear hKq Kq
  (try simp only [Act.put, List.setIfInBounds_toArray, List.set_cons_zero, List.set_cons_succ])
  refine PX.wpAnyX_done (by kernel_rfl) ?_ _
  have IM : Hid (∀ b, a5 = some b → l ≠ [] → W3.heap.size ≤ b.block) := fun b hb hl => (I5.out.block (b := b) hb hl).1
  have HG3 : Hid (gv < W3.heap.size) := by show gv < W3.heap.size; have h1 := HGV2.out; omega
  have HR3 : Hid (∀ e, (Value.slice x2 y2 u2).ownBlock = some e → e < W3.heap.size) := fun e he => by have h1 := (HRW.out e he).2; have h2 := HWa.out; omega
  have BT7 : Hid (Bx (w5.setCell ⟨gv, m, none⟩ (.slice a5 len c5)) w2.heap.size [.slice (some ⟨gv, 0, none⟩) y1 u1, .slice x2 y2 u2, .bool dd]) := T5.out.other _ (by show gv ≠ w2.heap.size; have h1 := HGV2.out; omega) _
  have BR7 : Hid (Bx (w5.setCell ⟨gv, m, none⟩ (.slice a5 len c5)) (w.heap.size + 2) [.slice none 0 0, .slice none 0 0, .bool false]) := R5.out.other _ (by show gv ≠ w.heap.size + 2; have h1 := HGV1.out; have h2 := HW01.out; omega) _
  have BA7 : Hid (Bx (w5.setCell ⟨gv, m, none⟩ (.slice a5 len c5)) (w.heap.size + 1) [.int .i64 (m : Int)]) := A5.out.other _ (by show gv ≠ w.heap.size + 1; have h1 := HGV1.out; have h2 := HW01.out; omega) _
  have HB7 : Hid (Below w.heap.size w (w5.setCell ⟨gv, m, none⟩ (.slice a5 len c5))) := HB5.out.setCell (p := ⟨gv, m, none⟩) (by show w.heap.size ≤ gv; have h1 := HGV1.out; have h2 := HW01.out; omega) _
  have PA7 : Hid (Parts w1.heap.size (w5.setCell ⟨gv, m, none⟩ (.slice a5 len c5)) (.slice (some ⟨gv, 0, none⟩) y1 u1) (.slice x2 y2 u2) (H.set m ⟨a5, len, c5, l⟩) K) := P5.out.setBlock HY1.out m ⟨a5, len, c5, l⟩ (I5.out.mono (by have h1 := HW12.out; have h2 := HWa.out; omega)) (fun b hb hl => by have h1 := IM.out b hb hl; have h2 := HG3.out; omega) (fun b hb hl e => by have h1 := IM.out b hb hl; have h2 := HR3.out _ e; omega)
  have AV7 : Hid (Avoid w2.heap.size (.slice (some ⟨gv, 0, none⟩) y1 u1) (.slice x2 y2 u2) (H.set m ⟨a5, len, c5, l⟩) K) := ⟨AV.out.b, AV.out.w, fun z hz b hb hl e => by rcases List.mem_or_eq_of_mem_set hz with h | h; exact AV.out.h z h b hb hl e; subst h; have h1 := IM.out b hb hl; omega, AV.out.k⟩
  generalize w5.setCell ⟨gv, m, none⟩ (.slice a5 len c5) = W7 at *
  refine NoPanic.normal ?_
  obtain ⟨t0, t1, t2⟩ := BT7.out.three
  have hTf1 := BT7.out.frozen 1
  have CDl := Lib.hid (delete_any w1.heap.size x2 y2 u2 K (m : Int) (w.heap.size + 1) W7 PA7.out.wa BA7.out.one BA7.out.lt (fun e => by have h1 := (HRW.out _ e).1; have h2 := HW01.out; omega))
  go_wp2_with fail
  refine CDl.out.mono ?_
  rintro e w8 ⟨m8, rfl, o8, g8⟩
  have PA8 : Hid (Parts w1.heap.size w8 (.slice (some ⟨gv, 0, none⟩) y1 u1) (.slice x2 m8 u2) (H.set m ⟨a5, len, c5, l⟩) (filt (m : Int) K)) := PA7.out.strike o8 g8
  have BT8 : Hid (Bx w8 w2.heap.size [.slice (some ⟨gv, 0, none⟩) y1 u1, .slice x2 y2 u2, .bool dd]) := BT7.out.grown g8 (fun e => absurd (HRW.out _ e).2 (Nat.lt_irrefl _))
  have BR8 : Hid (Bx w8 (w.heap.size + 2) [.slice none 0 0, .slice none 0 0, .bool false]) := BR7.out.grown g8 (fun e => by have h1 := (HRW.out _ e).1; have h2 := HW01.out; omega)
  have HB8 : Hid (Below w.heap.size w w8) := HB7.out.grown g8 HB7.out.size (fun e he => by have h1 := (HRW.out _ he).1; have h2 := HW01.out; omega)
  have av8 := AV7.out
  have AV8 : Hid (Avoid w2.heap.size (.slice (some ⟨gv, 0, none⟩) y1 u1) (.slice x2 m8 u2) (H.set m ⟨a5, len, c5, l⟩) (filt (m : Int) K)) :=
    ⟨av8.b, fun e => av8.w (by cases x2 <;> exact e), av8.h, fun z hz => av8.k z (List.mem_filter.1 hz).1⟩
  obtain ⟨u0, u1', u2'⟩ := BT8.out.three
  obtain ⟨q0, q1, q2⟩ := BR8.out.three
  have fT := BT8.out.frozen 1
  have f0 := BR8.out.frozen 0
  have f1 := BR8.out.frozen 1
  have f2 := BR8.out.frozen 2
  have hRT : w.heap.size + 2 < w2.heap.size := Nat.lt_of_lt_of_le HW01.out HW12.out
  have BT9 : Hid (Bx (w8.setCell ⟨w2.heap.size, 1, none⟩ (.slice x2 m8 u2)) w2.heap.size [.slice (some ⟨gv, 0, none⟩) y1 u1, .slice x2 m8 u2, .bool dd]) := BT8.out.set 1 _
  have BR9 : Hid (Bx (w8.setCell ⟨w2.heap.size, 1, none⟩ (.slice x2 m8 u2)) (w.heap.size + 2) [.slice none 0 0, .slice none 0 0, .bool false]) := BR8.out.other _ (by show w2.heap.size ≠ w.heap.size + 2; omega) _
  have HB9 : Hid (Below w.heap.size w (w8.setCell ⟨w2.heap.size, 1, none⟩ (.slice x2 m8 u2))) := HB8.out.setCell (p := ⟨w2.heap.size, 1, none⟩) (by show w.heap.size ≤ w2.heap.size; omega) _
  have PA9 : Hid (Parts w1.heap.size (w8.setCell ⟨w2.heap.size, 1, none⟩ (.slice x2 m8 u2)) (.slice (some ⟨gv, 0, none⟩) y1 u1) (.slice x2 m8 u2) (H.set m ⟨a5, len, c5, l⟩) (filt (m : Int) K)) := PA8.out.store ⟨w2.heap.size, 1, none⟩ AV8.out _
  clear o8 g8 av8
  go_wp2_with fail
  have z := ((BR9.out.set 0 (.slice (some ⟨gv, 0, none⟩) y1 u1)).set 1 (.slice x2 m8 u2)).set 2 (.bool dd)
  obtain ⟨z0, z1, z2⟩ := z.three
  have hl : w.heap.size + 2 < w1.heap.size := HW01.out
  exact bodyPost_ret (v := .tuple #[.agg #[.slice (some ⟨gv, 0, none⟩) y1 u1, .slice x2 m8 u2, .bool dd], .int .i64 0]) (by simp [results, Try.results38, go_sem, z0, z1, z2]) rfl
    ⟨_, rfl, ((((PA9.out.setCell ⟨w.heap.size + 2, 0, none⟩ hl _).setCell ⟨w.heap.size + 2, 1, none⟩ hl _).setCell ⟨w.heap.size + 2, 2, none⟩ hl _).mono (by omega : w.heap.size ≤ w1.heap.size)).dev (D := DK.sure D (m : Int) l) (by rw [lists_set, HHl.out]; rfl) (by rw [wlist_filt, HKl.out]; rfl) dd HD.out,
      ((HB9.out.setCell (p := ⟨w.heap.size + 2, 0, none⟩) (by show w.heap.size ≤ w.heap.size + 2; omega) _).setCell (p := ⟨w.heap.size + 2, 1, none⟩) (by show w.heap.size ≤ w.heap.size + 2; omega) _).setCell (p := ⟨w.heap.size + 2, 2, none⟩) (by show w.heap.size ≤ w.heap.size + 2; omega) _⟩
end Go.Proofs.Ytnhfkfihlkbkfaa.PW
