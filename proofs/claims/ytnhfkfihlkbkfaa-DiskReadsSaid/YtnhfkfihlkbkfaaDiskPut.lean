/-
  Contracts of layer 4: a device with one write more that waits; the document's own.
-/
import Derived.Test.YtnhfkfihlkbkfaaDiskCodes
import Derived.Test.YtnhfkfihlkbkfaaDiskRefTwin
import Derived.Test.YtnhfkfihlkbkfaaDiskRefRead
import Derived.Test.YtnhfkfihlkbkfaaDiskWrite
namespace Go.Proofs.Ytnhfkfihlkbkfaa.PW
open Go.RowKit
open DK (Dv)
set_option linter.unusedVariables false
set_option maxRecDepth 100000
set_option linter.unusedSimpArgs false

def rput (D : Dv) (at_ : Int) (l : List Nat) : Dv := ⟨D.bs, D.ws ++ [(at_, DK.fl l)], D.dead⟩

set_option maxRecDepth 100000 in
set_option maxHeartbeats 1000000 in
theorem refPut_any (a : Option Addr) (n c : Nat) (a' : Option Addr) (n' c' : Nat) (D : Dv) (at_ : Int) (b : Option Addr) (len cap : Nat) (l : List Nat) (w : World) (hr : DevAt w.heap.size w a n c a' n' c' D) (hf : Fit D) (hq : Rd w.heap.size w b len cap l) (hll : l.length ≤ 100000) :
    Calls Try.prog 85 #[.agg #[.slice a n c, .slice a' n' c', .bool D.dead], .int .i64 at_, .slice b len cap] w (TheDev w (rput D at_ l)) := by
  have hb1 : Below w.heap.size w ((w.alloc (.cells #[.slice a n c, .slice a' n' c', .bool D.dead] 37)).alloc (.cells #[.slice none 0 0, .slice none 0 0, .bool false] 37)) := ((Below.refl _ _).alloc (Nat.le_refl _) _).alloc (by simp) _
  have bD := (Bx.new w [.slice a n c, .slice a' n' c', .bool D.dead] 37).alloc (.cells #[.slice none 0 0, .slice none 0 0, .bool false] 37)
  have bR := Bx.new (w.alloc (.cells #[.slice a n c, .slice a' n' c', .bool D.dead] 37)) [.slice none 0 0, .slice none 0 0, .bool false] 37
  simp only [World.size_alloc] at bR
  have CT : Hid (∀ w1, Below w.heap.size w w1 → Calls Try.prog 51 #[.agg #[.slice a n c, .slice a' n' c', .bool D.dead]] w1 (TheDev w1 D)) := fun w1 h => refTwin_any a n c a' n' c' D w1 (hr.here h) hf
  have CC : Hid (∀ w1, Below w.heap.size w w1 → Calls Try.prog 59 #[.slice b len cap] w1 (NewSl w1 (DK.fl l))) := fun w1 h => refFull_new b len cap l w1 (hq.here h) hll
  have H9 := Lib.hid hf.2.1
  have HB := Lib.hid hb1
  have BD := Lib.hid bD
  have BR := Lib.hid bR
  clear hb1 bD bR hr hf hq hll
  obtain ⟨dd, hdd⟩ : ∃ dd, dd = D.dead := ⟨_, rfl⟩
  have HD := Lib.hid hdd
  rw [← hdd] at CT HB BD BR ⊢
  clear hdd
  go_enter Try.func85, Try.ntmps85
  go_wp2_with fail
  have hw0 : ((w.alloc (.cells #[.slice a n c, .slice a' n' c', .bool dd] 37)).alloc (.cells #[.slice none 0 0, .slice none 0 0, .bool false] 37)).heap.size = w.heap.size + 2 := by simp
  have CT1 := Lib.hid (CT.out _ HB.out)
  generalize (w.alloc (.cells #[.slice a n c, .slice a' n' c', .bool dd] 37)).alloc (.cells #[.slice none 0 0, .slice none 0 0, .bool false] 37) = w1 at *
  have BR1 := Lib.hid BR.out
  have HB1 := Lib.hid HB.out
  clear CT hw0
  refine CT1.out.mono ?_
  rintro e w2 ⟨v, rfl, od, b2⟩
  obtain ⟨x1, y1, u1, x2, y2, u2, H, K, rfl, pa, hH, hK, hy1, hy2⟩ := od.parts
  have HHl := Lib.hid hH
  have HKl := Lib.hid hK
  have HY2 := Lib.hid hy2
  rw [← HD.out]
  have bR := BR1.out.here b2
  have hB2 := thence HB1.out b2 (Nat.le_refl _)
  have bT := Bx.new w2 [.slice x1 y1 u1, .slice x2 y2 u2, .bool dd] 37
  have al : Below w2.heap.size w2 (w2.alloc (.cells [Value.slice x1 y1 u1, .slice x2 y2 u2, .bool dd].toArray 37)) := (Below.refl _ _).alloc (Nat.le_refl _) _
  have PA : Hid (Parts w1.heap.size (w2.alloc (.cells [Value.slice x1 y1 u1, .slice x2 y2 u2, .bool dd].toArray 37)) (.slice x1 y1 u1) (.slice x2 y2 u2) H K) := pa.here al
  have BT := Lib.hid bT
  have BR2 : Hid (Bx (w2.alloc (.cells [Value.slice x1 y1 u1, .slice x2 y2 u2, .bool dd].toArray 37)) (w.heap.size + 1) [.slice none 0 0, .slice none 0 0, .bool false]) := bR.here al
  have HB2 : Hid (Below w.heap.size w (w2.alloc (.cells [Value.slice x1 y1 u1, .slice x2 y2 u2, .bool dd].toArray 37))) := thence hB2 al (Nat.le_refl _)
  have HW12 : Hid (w1.heap.size ≤ w2.heap.size) := b2.size
  have AV : Hid (Avoid w2.heap.size (.slice x1 y1 u1) (.slice x2 y2 u2) H K) := pa.avoid (.inr (Nat.le_refl _))
  have HWa : Hid ((w2.alloc (.cells [Value.slice x1 y1 u1, .slice x2 y2 u2, .bool dd].toArray 37)).heap.size = w2.heap.size + 1) := by show _ = _; simp
  have HW01 : Hid (w.heap.size + 1 < w1.heap.size) := BR1.out.lt
  have HRW : Hid (∀ e, (Value.slice x2 y2 u2).ownBlock = some e → w1.heap.size ≤ e ∧ e < w2.heap.size) := fun e he => pa.wa.lt e he
  clear bR hB2 bT al pa hH hK hy1 hy2 od b2 CT1
  go_wp2_with fail
  generalize hW3 : w2.alloc (.cells #[.slice x1 y1 u1, .slice x2 y2 u2, .bool dd] 37) = W3
  replace PA : Hid (Parts w1.heap.size W3 (.slice x1 y1 u1) (.slice x2 y2 u2) H K) := by rw [← hW3]; exact PA.out
  replace BT : Hid (Bx W3 w2.heap.size [.slice x1 y1 u1, .slice x2 y2 u2, .bool dd]) := by rw [← hW3]; exact BT.out
  replace BR2 : Hid (Bx W3 (w.heap.size + 1) [.slice none 0 0, .slice none 0 0, .bool false]) := by rw [← hW3]; exact BR2.out
  replace HB2 : Hid (Below w.heap.size w W3) := by rw [← hW3]; exact HB2.out
  replace HWa : Hid (W3.heap.size = w2.heap.size + 1) := by rw [← hW3]; exact HWa.out
  clear hW3
  have gT : w2.heap.size < W3.heap.size := BT.out.lt
  have CC1 := Lib.hid (CC.out W3.drew HB2.out.drew)
  have hfz : W3.drew.frozen? ⟨w2.heap.size, 1, none⟩ = false := BT.out.drew.frozen 1
  refine wp_region_noPanic ?_
  refine PX.wp_region_x (fun w' => w'.cell? ⟨w2.heap.size, 1, none⟩ = some (.slice x2 y2 u2)) 9 (by kernel_rfl) BT.out.drew.three.2.1 (fun hHeld => ?_)
  refine PX.wpAnyX_take (i := 0) (oi := ?_) (v := ?_) ?_ (by kernel_rfl) (by kernel_rfl) (by kernel_rfl) (by kernel_rfl) (by kernel_rfl) (fun _ _ _ h => h) (Or.inl ⟨?_, ?_⟩) (by assumption) ?_
  rotate_left 2
  · simp only [List.getElem?_toArray, List.getElem?_cons_succ, List.getElem?_cons_zero]; rfl
  · rfl
  · intro w hSw; (try dsimp only at hSw); go_simp <;> with_reducible rfl
  (try simp only [Act.put, List.setIfInBounds_toArray, List.set_cons_zero, List.set_cons_succ])
  refine PX.wpAnyX_take (i := 1) (oi := ?_) (v := ?_) ?_ (by kernel_rfl) (by kernel_rfl) (by kernel_rfl) (by kernel_rfl) (by kernel_rfl) (fun _ _ _ h => h) (Or.inl ⟨?_, ?_⟩) (by assumption) ?_
  rotate_left 2
  · simp only [List.getElem?_toArray, List.getElem?_cons_succ, List.getElem?_cons_zero]; rfl
  · rfl
  · intro w hSw; (try dsimp only at hSw); go_simp <;> with_reducible rfl
  (try simp only [Act.put, List.setIfInBounds_toArray, List.set_cons_zero, List.set_cons_succ])
  refine PX.wpAnyX_take (i := 2) (oi := ?_) (v := ?_) ?_ (by kernel_rfl) (by kernel_rfl) (by kernel_rfl) (by kernel_rfl) (by kernel_rfl) (fun _ _ _ h => h) (Or.inl ⟨?_, ?_⟩) (by assumption) ?_
  rotate_left 2
  · simp only [List.getElem?_toArray, List.getElem?_cons_succ, List.getElem?_cons_zero]; rfl
  · rfl
  · intro w hSw; (try dsimp only at hSw); go_simp <;> with_reducible rfl
  (try simp only [Act.put, List.setIfInBounds_toArray, List.set_cons_zero, List.set_cons_succ])
  refine PX.wpAnyX_take (i := 3) (oi := ?_) (v := ?_) ?_ (by kernel_rfl) (by kernel_rfl) (by kernel_rfl) (by kernel_rfl) (by kernel_rfl) (fun _ _ _ h => h) (Or.inl ⟨?_, ?_⟩) (by assumption) ?_
  rotate_left 2
  · simp only [List.getElem?_toArray, List.getElem?_cons_succ, List.getElem?_cons_zero]; rfl
  · rfl
  · intro w hSw; (try dsimp only at hSw); go_simp <;> with_reducible rfl
  (try simp only [Act.put, List.setIfInBounds_toArray, List.set_cons_zero, List.set_cons_succ])
  refine PX.wpAnyX_one (i := 4) (o := ?_) (by kernel_rfl) ?_ (fun Kq hKq => ?_)
  rotate_left
  · simp only [List.getElem?_toArray, List.getElem?_cons_succ, List.getElem?_cons_zero]; rfl
  go_simp
  refine CC1.out.mono ?_
  rintro e w5 ⟨a5, n5, c5, rfl, it5, b5⟩
  obtain ⟨v6, w6, r6, P6, g6, av6⟩ := (PA.out.here (Below.refl _ _).drew).wait (by show w1.heap.size ≤ W3.heap.size; have := HW12.out; have := HWa.out; omega) (by have h1 := H9.out; rw [← HKl.out, wlist_length] at h1; omega) b5 at_ it5
  have AV6 := Lib.hid (av6 w2.heap.size (by show _ < W3.heap.size; exact gT) AV.out)
  clear av6
  have hk6 : wlist (K ++ [(⟨at_, ⟨a5, n5, c5, DK.fl l⟩⟩ : Wr)]) = (rput D at_ l).ws := by rw [wlist_append, HKl.out]; rfl
  generalize hK6 : K ++ [(⟨at_, ⟨a5, n5, c5, DK.fl l⟩⟩ : Wr)] = K6 at *
  have hn6 : 0 < K6.length := by rw [← hK6]; simp
  obtain ⟨g6b, cp6, rfl, hg6a, hg6b, hg6c, hg6d⟩ := P6.wa.own.form hn6
  have HK6 := Lib.hid hk6
  clear hk6 hK6 hn6 hg6a hg6b hg6c hg6d
  have R6 := Lib.hid r6
  have P6' := Lib.hid P6
  have g6' := Lib.hid g6
  have B5 := Lib.hid b5
  have hb6 : Hid (Bx w6 w2.heap.size [.slice x1 y1 u1, .slice x2 y2 u2, .bool dd]) := ((BT.out.drew.here b5).alloc _).grown g6 (fun e => absurd (HRW.out _ e).2 (Nat.lt_irrefl _))
  have hr6 : Hid (Bx w6 (w.heap.size + 1) [.slice none 0 0, .slice none 0 0, .bool false]) := ((BR2.out.drew.here b5).alloc _).grown g6 (fun e => by have h1 := (HRW.out _ e).1; have h2 := HW01.out; omega)
  have hw6 : Hid (Below w.heap.size w w6) := (HB2.out.trans ((((Below.refl _ _).drew.trans (b5.alloc b5.size _)).mono HB2.out.size))).grown g6 (by have h1 := HB2.out.size; have h2 := (b5.alloc b5.size (.cells #[.int .i64 at_, .slice a5 n5 c5] 64)).size; exact Nat.le_trans h1 h2) (fun e he => by have h1 := (HRW.out _ he).1; have h2 := HW01.out; omega)
  have hf6 := hb6.out.frozen 1
  clear r6 P6 g6 it5 b5
  go_wp2_with fail
  refine hKq.out _ _ ((BT.out.drew.here B5.out).three.2.1) (fun hHeld => ?_)
  clear hKq Kq
  (try simp only [Act.put, List.setIfInBounds_toArray, List.set_cons_zero, List.set_cons_succ])
  refine PX.wpAnyX_one (i := 5) (o := ?_) (by kernel_rfl) ?_ (fun Kq hKq => ?_)
  rotate_left
  · simp only [List.getElem?_toArray, List.getElem?_cons_succ, List.getElem?_cons_zero]; rfl
  go_simp
  refine hKq.out _ _ (by assumption) (fun hHeld => ?_)
  clear hKq Kq
  (try simp only [Act.put, List.setIfInBounds_toArray, List.set_cons_zero, List.set_cons_succ])
  refine PX.wpAnyX_one (i := 6) (o := ?_) (by kernel_rfl) ?_ (fun Kq hKq => ?_)
  rotate_left
  · simp only [List.getElem?_toArray, List.getElem?_cons_succ, List.getElem?_cons_zero]; rfl
  go_simp
  refine hKq.out _ _ (((BT.out.drew.here B5.out).alloc _).three.2.1) (fun hHeld => ?_)
  clear hKq Kq
  (try simp only [Act.put, List.setIfInBounds_toArray, List.set_cons_zero, List.set_cons_succ])
  refine PX.wpAnyX_one (i := 7) (o := ?_) (by kernel_rfl) ?_ (fun Kq hKq => ?_)
  rotate_left
  · simp only [List.getElem?_toArray, List.getElem?_cons_succ, List.getElem?_cons_zero]; rfl
  refine PX.step_append_run _ _ _ _ (by rfl) (by rfl) R6.out ?_
  refine hKq.out _ _ (hb6.out.three.2.1) (fun hHeld => ?_)
  clear hKq Kq
  (try simp only [Act.put, List.setIfInBounds_toArray, List.set_cons_zero, List.set_cons_succ])
  refine PX.wpAnyX_one (i := 8) (o := ?_) (by kernel_rfl) ?_ (fun Kq hKq => ?_)
  rotate_left
  · simp only [List.getElem?_toArray, List.getElem?_cons_succ, List.getElem?_cons_zero]; rfl
  go_simp
  refine hKq.out _ _ (by assumption) (fun hHeld => ?_)
  clear hKq Kq
  (try simp only [Act.put, List.setIfInBounds_toArray, List.set_cons_zero, List.set_cons_succ])
  refine PX.wpAnyX_last (o := ?_) (by kernel_rfl) ?_ (fun Kq hKq => ?_)
  rotate_left
  · simp only [List.getElem?_toArray, List.getElem?_cons_succ, List.getElem?_cons_zero]; rfl
  go_simp
  refine hKq.out _ _ ?_
  clear hKq Kq
  (try simp only [Act.put, List.setIfInBounds_toArray, List.set_cons_zero, List.set_cons_succ])
  refine PX.wpAnyX_done (by kernel_rfl) ?_ _
  have BT7 : Hid (Bx (w6.setCell ⟨w2.heap.size, 1, none⟩ (.slice (some ⟨g6b, 0, none⟩) K6.length cp6)) w2.heap.size [.slice x1 y1 u1, .slice (some ⟨g6b, 0, none⟩) K6.length cp6, .bool dd]) := hb6.out.set 1 _
  have BR7 : Hid (Bx (w6.setCell ⟨w2.heap.size, 1, none⟩ (.slice (some ⟨g6b, 0, none⟩) K6.length cp6)) (w.heap.size + 1) [.slice none 0 0, .slice none 0 0, .bool false]) := hr6.out.other _ (by show w2.heap.size ≠ w.heap.size + 1; have := HW01.out; have := HW12.out; omega) _
  have HB7 : Hid (Below w.heap.size w (w6.setCell ⟨w2.heap.size, 1, none⟩ (.slice (some ⟨g6b, 0, none⟩) K6.length cp6))) := hw6.out.setCell (p := ⟨w2.heap.size, 1, none⟩) (by show w.heap.size ≤ w2.heap.size; have := HW01.out; have := HW12.out; omega) _
  have PA7 : Hid (Parts w1.heap.size (w6.setCell ⟨w2.heap.size, 1, none⟩ (.slice (some ⟨g6b, 0, none⟩) K6.length cp6)) (.slice x1 y1 u1) (.slice (some ⟨g6b, 0, none⟩) K6.length cp6) H K6) := P6'.out.store ⟨w2.heap.size, 1, none⟩ AV6.out _
  generalize w6.setCell ⟨w2.heap.size, 1, none⟩ (.slice (some ⟨g6b, 0, none⟩) K6.length cp6) = W7 at *
  refine NoPanic.normal ?_
  obtain ⟨t0, t1, t2⟩ := BT7.out.three
  obtain ⟨q0, q1, q2⟩ := BR7.out.three
  have f0 := BR7.out.frozen 0
  have f1 := BR7.out.frozen 1
  have f2 := BR7.out.frozen 2
  have hRT : w.heap.size + 1 < w2.heap.size := Nat.lt_of_lt_of_le HW01.out HW12.out
  go_wp2_with fail
  have z := ((BR7.out.set 0 (.slice x1 y1 u1)).set 1 (.slice (some ⟨g6b, 0, none⟩) K6.length cp6)).set 2 (.bool dd)
  obtain ⟨z0, z1, z2⟩ := z.three
  have hl : w.heap.size + 1 < w1.heap.size := HW01.out
  exact bodyPost_ret (v := .agg #[.slice x1 y1 u1, .slice (some ⟨g6b, 0, none⟩) K6.length cp6, .bool dd]) (by simp [results, Try.results85, go_sem, z0, z1, z2]) rfl
    ⟨_, rfl, ((((PA7.out.setCell ⟨w.heap.size + 1, 0, none⟩ hl _).setCell ⟨w.heap.size + 1, 1, none⟩ hl _).setCell ⟨w.heap.size + 1, 2, none⟩ hl _).mono (by omega : w.heap.size ≤ w1.heap.size)).dev (D := rput D at_ l) HHl.out HK6.out dd HD.out,
      ((HB7.out.setCell (p := ⟨w.heap.size + 1, 0, none⟩) (Nat.le_succ _) _).setCell (p := ⟨w.heap.size + 1, 1, none⟩) (Nat.le_succ _) _).setCell (p := ⟨w.heap.size + 1, 2, none⟩) (Nat.le_succ _) _⟩

def rwriteD (D : Dv) (at_ : Int) (l : List Nat) : Dv := if DK.wcode' D at_ l = 0 then rput D at_ l else DK.Dv.nil

end Go.Proofs.Ytnhfkfihlkbkfaa.PW
