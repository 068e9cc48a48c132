/-
  Contracts of layer 4: a device with one write more that waits; the document's own.
  Contracts of layer 4: a device with one write more that lasts; the document's own.
  Contracts of layer 4: a write that lasts; the document's own.
-/
import Derived.Test.YtnhfkfihlkbkfaaDiskCodes
import Derived.Test.YtnhfkfihlkbkfaaDiskRefTwin
import Derived.Test.YtnhfkfihlkbkfaaDiskRefRead
import Derived.Test.YtnhfkfihlkbkfaaDiskFua
namespace Go.Proofs.Ytnhfkfihlkbkfaa.PW
open Go.RowKit
open DK (Dv)
set_option linter.unusedVariables false
set_option maxRecDepth 100000
set_option linter.unusedSimpArgs false

def rput (D : Dv) (at_ : Int) (l : List Nat) : Dv := ⟨D.bs, D.ws ++ [(at_, DK.fl l)], D.dead⟩

set_option maxRecDepth 100000 in
set_option maxHeartbeats 1000000 in
theorem refPut_any (a : Option Addr) (n c : Nat) (a' : Option Addr) (n' c' : Nat) (D : Dv) (at_ : Int) (b : Option Addr) (len cap : Nat) (l : List Nat) (w : World) (hr : DevAt w.heap.size w a n c a' n' c' D) (hf : Fit D) (hq : Rd w.heap.size w b len cap l) (hll : l.length ≤ 100000) :
    Calls Try.prog 85 #[.agg #[.slice a n c, .slice a' n' c', .bool D.dead], .int .i64 at_, .slice b len cap] w (TheDev w (rput D at_ l)) := by
  have hb1 : Below w.heap.size w ((w.alloc (.cells #[.slice a n c, .slice a' n' c', .bool D.dead] 37)).alloc (.cells #[.slice none 0 0, .slice none 0 0, .bool false] 37)) := ((Below.refl _ _).alloc (Nat.le_refl _) _).alloc (by simp) _
  have bD := (Bx.new w [.slice a n c, .slice a' n' c', .bool D.dead] 37).alloc (.cells #[.slice none 0 0, .slice none 0 0, .bool false] 37)
  have bR := Bx.new (w.alloc (.cells #[.slice a n c, .slice a' n' c', .bool D.dead] 37)) [.slice none 0 0, .slice none 0 0, .bool false] 37
  simp only [World.size_alloc] at bR
  have CT : Hid (∀ w1, Below w.heap.size w w1 → Calls Try.prog 51 #[.agg #[.slice a n c, .slice a' n' c', .bool D.dead]] w1 (TheDev w1 D)) := fun w1 h => refTwin_any a n c a' n' c' D w1 (hr.here h) hf
  have CC : Hid (∀ w1, Below w.heap.size w w1 → Calls Try.prog 59 #[.slice b len cap] w1 (NewSl w1 (DK.fl l))) := fun w1 h => refFull_new b len cap l w1 (hq.here h) hll
  have H9 := Lib.hid hf.2.1
  have HB := Lib.hid hb1
  have BD := Lib.hid bD
  have BR := Lib.hid bR
  clear hb1 bD bR hr hf hq hll
  obtain ⟨dd, hdd⟩ : ∃ dd, dd = D.dead := ⟨_, rfl⟩
  have HD := Lib.hid hdd
  rw [← hdd] at CT HB BD BR ⊢
  clear hdd
  go_enter Try.func85, Try.ntmps85
  go_wp2_with fail
  have hw0 : ((w.alloc (.cells #[.slice a n c, .slice a' n' c', .bool dd] 37)).alloc (.cells #[.slice none 0 0, .slice none 0 0, .bool false] 37)).heap.size = w.heap.size + 2 := by simp
  have CT1 := Lib.hid (CT.out _ HB.out)
  generalize (w.alloc (.cells #[.slice a n c, .slice a' n' c', .bool dd] 37)).alloc (.cells #[.slice none 0 0, .slice none 0 0, .bool false] 37) = w1 at *
  have BR1 := Lib.hid BR.out
  have HB1 := Lib.hid HB.out
  clear CT hw0
  refine CT1.out.mono ?_
  rintro e w2 ⟨v, rfl, od, b2⟩
  obtain ⟨x1, y1, u1, x2, y2, u2, H, K, rfl, pa, hH, hK, hy1, hy2⟩ := od.parts
  have HHl := Lib.hid hH
  have HKl := Lib.hid hK
  have HY2 := Lib.hid hy2
  rw [← HD.out]
  have bR := BR1.out.here b2
  have hB2 := thence HB1.out b2 (Nat.le_refl _)
  have bT := Bx.new w2 [.slice x1 y1 u1, .slice x2 y2 u2, .bool dd] 37
  have al : Below w2.heap.size w2 (w2.alloc (.cells [Value.slice x1 y1 u1, .slice x2 y2 u2, .bool dd].toArray 37)) := (Below.refl _ _).alloc (Nat.le_refl _) _
  have PA : Hid (Parts w1.heap.size (w2.alloc (.cells [Value.slice x1 y1 u1, .slice x2 y2 u2, .bool dd].toArray 37)) (.slice x1 y1 u1) (.slice x2 y2 u2) H K) := pa.here al
  have BT := Lib.hid bT
  have BR2 : Hid (Bx (w2.alloc (.cells [Value.slice x1 y1 u1, .slice x2 y2 u2, .bool dd].toArray 37)) (w.heap.size + 1) [.slice none 0 0, .slice none 0 0, .bool false]) := bR.here al
  have HB2 : Hid (Below w.heap.size w (w2.alloc (.cells [Value.slice x1 y1 u1, .slice x2 y2 u2, .bool dd].toArray 37))) := thence hB2 al (Nat.le_refl _)
  have HW12 : Hid (w1.heap.size ≤ w2.heap.size) := b2.size
  have AV : Hid (Avoid w2.heap.size (.slice x1 y1 u1) (.slice x2 y2 u2) H K) := pa.avoid (.inr (Nat.le_refl _))
  have HWa : Hid ((w2.alloc (.cells [Value.slice x1 y1 u1, .slice x2 y2 u2, .bool dd].toArray 37)).heap.size = w2.heap.size + 1) := by show _ = _; simp
  have HW01 : Hid (w.heap.size + 1 < w1.heap.size) := BR1.out.lt
  have HRW : Hid (∀ e, (Value.slice x2 y2 u2).ownBlock = some e → w1.heap.size ≤ e ∧ e < w2.heap.size) := fun e he => pa.wa.lt e he
  clear bR hB2 bT al pa hH hK hy1 hy2 od b2 CT1
  go_wp2_with fail
  generalize hW3 : w2.alloc (.cells #[.slice x1 y1 u1, .slice x2 y2 u2, .bool dd] 37) = W3
  replace PA : Hid (Parts w1.heap.size W3 (.slice x1 y1 u1) (.slice x2 y2 u2) H K) := by rw [← hW3]; exact PA.out
  replace BT : Hid (Bx W3 w2.heap.size [.slice x1 y1 u1, .slice x2 y2 u2, .bool dd]) := by rw [← hW3]; exact BT.out
  replace BR2 : Hid (Bx W3 (w.heap.size + 1) [.slice none 0 0, .slice none 0 0, .bool false]) := by rw [← hW3]; exact BR2.out
  replace HB2 : Hid (Below w.heap.size w W3) := by rw [← hW3]; exact HB2.out
  replace HWa : Hid (W3.heap.size = w2.heap.size + 1) := by rw [← hW3]; exact HWa.out
  clear hW3
  have gT : w2.heap.size < W3.heap.size := BT.out.lt
  have CC1 := Lib.hid (CC.out W3.drew HB2.out.drew)
  have hfz : W3.drew.frozen? ⟨w2.heap.size, 1, none⟩ = false := BT.out.drew.frozen 1
  refine wp_region_noPanic ?_
  refine PX.wp_region_x (fun w' => w'.cell? ⟨w2.heap.size, 1, none⟩ = some (.slice x2 y2 u2)) 9 (by kernel_rfl) BT.out.drew.three.2.1 (fun hHeld => ?_)
  refine PX.wpAnyX_take (i := 0) (oi := ?_) (v := ?_) ?_ (by kernel_rfl) (by kernel_rfl) (by kernel_rfl) (by kernel_rfl) (by kernel_rfl) (fun _ _ _ h => h) (Or.inl ⟨?_, ?_⟩) (by assumption) ?_
  rotate_left 2
  · simp only [List.getElem?_toArray, List.getElem?_cons_succ, List.getElem?_cons_zero]; rfl
  · rfl
  · intro w hSw; (try dsimp only at hSw); go_simp <;> with_reducible rfl
  (try simp only [Act.put, List.setIfInBounds_toArray, List.set_cons_zero, List.set_cons_succ])
  refine PX.wpAnyX_take (i := 1) (oi := ?_) (v := ?_) ?_ (by kernel_rfl) (by kernel_rfl) (by kernel_rfl) (by kernel_rfl) (by kernel_rfl) (fun _ _ _ h => h) (Or.inl ⟨?_, ?_⟩) (by assumption) ?_
  rotate_left 2
  · simp only [List.getElem?_toArray, List.getElem?_cons_succ, List.getElem?_cons_zero]; rfl
  · rfl
  · intro w hSw; (try dsimp only at hSw); go_simp <;> with_reducible rfl
  (try simp only [Act.put, List.setIfInBounds_toArray, List.set_cons_zero, List.set_cons_succ])
  refine PX.wpAnyX_take (i := 2) (oi := ?_) (v := ?_) ?_ (by kernel_rfl) (by kernel_rfl) (by kernel_rfl) (by kernel_rfl) (by kernel_rfl) (fun _ _ _ h => h) (Or.inl ⟨?_, ?_⟩) (by assumption) ?_
  rotate_left 2
  · simp only [List.getElem?_toArray, List.getElem?_cons_succ, List.getElem?_cons_zero]; rfl
  · rfl
  · intro w hSw; (try dsimp only at hSw); go_simp <;> with_reducible rfl
  (try simp only [Act.put, List.setIfInBounds_toArray, List.set_cons_zero, List.set_cons_succ])
  refine PX.wpAnyX_take (i := 3) (oi := ?_) (v := ?_) ?_ (by kernel_rfl) (by kernel_rfl) (by kernel_rfl) (by kernel_rfl) (by kernel_rfl) (fun _ _ _ h => h) (Or.inl ⟨?_, ?_⟩) (by assumption) ?_
  rotate_left 2
  · simp only [List.getElem?_toArray, List.getElem?_cons_succ, List.getElem?_cons_zero]; rfl
  · rfl
  · intro w hSw; (try dsimp only at hSw); go_simp <;> with_reducible rfl
  (try simp only [Act.put, List.setIfInBounds_toArray, List.set_cons_zero, List.set_cons_succ])
  refine PX.wpAnyX_one (i := 4) (o := ?_) (by kernel_rfl) ?_ (fun Kq hKq => ?_)
  rotate_left
  · simp only [List.getElem?_toArray, List.getElem?_cons_succ, List.getElem?_cons_zero]; rfl
  go_simp
  refine CC1.out.mono ?_
  rintro e w5 ⟨a5, n5, c5, rfl, it5, b5⟩
  obtain ⟨v6, w6, r6, P6, g6, av6⟩ := (PA.out.here (Below.refl _ _).drew).wait (by show w1.heap.size ≤ W3.heap.size; have := HW12.out; have := HWa.out; omega) (by have h1 := H9.out; rw [← HKl.out, wlist_length] at h1; omega) b5 at_ it5
  have AV6 := Lib.hid (av6 w2.heap.size (by show _ < W3.heap.size; exact gT) AV.out)
  clear av6
  have hk6 : wlist (K ++ [(⟨at_, ⟨a5, n5, c5, DK.fl l⟩⟩ : Wr)]) = (rput D at_ l).ws := by rw [wlist_append, HKl.out]; rfl
  generalize hK6 : K ++ [(⟨at_, ⟨a5, n5, c5, DK.fl l⟩⟩ : Wr)] = K6 at *
  have hn6 : 0 < K6.length := by rw [← hK6]; simp
  obtain ⟨g6b, cp6, rfl, hg6a, hg6b, hg6c, hg6d⟩ := P6.wa.own.form hn6
  have HK6 := Lib.hid hk6
  clear hk6 hK6 hn6 hg6a hg6b hg6c hg6d
  have R6 := Lib.hid r6
  have P6' := Lib.hid P6
  have g6' := Lib.hid g6
  have B5 := Lib.hid b5
  have hb6 : Hid (Bx w6 w2.heap.size [.slice x1 y1 u1, .slice x2 y2 u2, .bool dd]) := ((BT.out.drew.here b5).alloc _).grown g6 (fun e => absurd (HRW.out _ e).2 (Nat.lt_irrefl _))
  have hr6 : Hid (Bx w6 (w.heap.size + 1) [.slice none 0 0, .slice none 0 0, .bool false]) := ((BR2.out.drew.here b5).alloc _).grown g6 (fun e => by have h1 := (HRW.out _ e).1; have h2 := HW01.out; omega)
  have hw6 : Hid (Below w.heap.size w w6) := (HB2.out.trans ((((Below.refl _ _).drew.trans (b5.alloc b5.size _)).mono HB2.out.size))).grown g6 (by have h1 := HB2.out.size; have h2 := (b5.alloc b5.size (.cells #[.int .i64 at_, .slice a5 n5 c5] 64)).size; exact Nat.le_trans h1 h2) (fun e he => by have h1 := (HRW.out _ he).1; have h2 := HW01.out; omega)
  have hf6 := hb6.out.frozen 1
  clear r6 P6 g6 it5 b5
  go_wp2_with fail
  refine hKq.out _ _ ((BT.out.drew.here B5.out).three.2.1) (fun hHeld => ?_)
  clear hKq Kq
  (try simp only [Act.put, List.setIfInBounds_toArray, List.set_cons_zero, List.set_cons_succ])
  refine PX.wpAnyX_one (i := 5) (o := ?_) (by kernel_rfl) ?_ (fun Kq hKq => ?_)
  rotate_left
  · simp only [List.getElem?_toArray, List.getElem?_cons_succ, List.getElem?_cons_zero]; rfl
  go_simp
  refine hKq.out _ _ (by assumption) (fun hHeld => ?_)
  clear hKq Kq
  (try simp only [Act.put, List.setIfInBounds_toArray, List.set_cons_zero, List.set_cons_succ])
  refine PX.wpAnyX_one (i := 6) (o := ?_) (by kernel_rfl) ?_ (fun Kq hKq => ?_)
  rotate_left
  · simp only [List.getElem?_toArray, List.getElem?_cons_succ, List.getElem?_cons_zero]; rfl
  go_simp
  refine hKq.out _ _ (((BT.out.drew.here B5.out).alloc _).three.2.1) (fun hHeld => ?_)
  clear hKq Kq
  (try simp only [Act.put, List.setIfInBounds_toArray, List.set_cons_zero, List.set_cons_succ])
  refine PX.wpAnyX_one (i := 7) (o := ?_) (by kernel_rfl) ?_ (fun Kq hKq => ?_)
  rotate_left
  · simp only [List.getElem?_toArray, List.getElem?_cons_succ, List.getElem?_cons_zero]; rfl
  refine PX.step_append_run _ _ _ _ (by rfl) (by rfl) R6.out ?_
  refine hKq.out _ _ (hb6.out.three.2.1) (fun hHeld => ?_)
  clear hKq Kq
  (try simp only [Act.put, List.setIfInBounds_toArray, List.set_cons_zero, List.set_cons_succ])
  refine PX.wpAnyX_one (i := 8) (o := ?_) (by kernel_rfl) ?_ (fun Kq hKq => ?_)
  rotate_left
  · simp only [List.getElem?_toArray, List.getElem?_cons_succ, List.getElem?_cons_zero]; rfl
  go_simp
  refine hKq.out _ _ (by assumption) (fun hHeld => ?_)
  clear hKq Kq
  (try simp only [Act.put, List.setIfInBounds_toArray, List.set_cons_zero, List.set_cons_succ])
  refine PX.wpAnyX_last (o := ?_) (by kernel_rfl) ?_ (fun Kq hKq => ?_)
  rotate_left
  · simp only [List.getElem?_toArray, List.getElem?_cons_succ, List.getElem?_cons_zero]; rfl
  go_simp
  refine hKq.out _ _ ?_
  clear hKq Kq
  (try simp only [Act.put, List.setIfInBounds_toArray, List.set_cons_zero, List.set_cons_succ])
  refine PX.wpAnyX_done (by kernel_rfl) ?_ _
  have BT7 : Hid (Bx (w6.setCell ⟨w2.heap.size, 1, none⟩ (.slice (some ⟨g6b, 0, none⟩) K6.length cp6)) w2.heap.size [.slice x1 y1 u1, .slice (some ⟨g6b, 0, none⟩) K6.length cp6, .bool dd]) := hb6.out.set 1 _
  have BR7 : Hid (Bx (w6.setCell ⟨w2.heap.size, 1, none⟩ (.slice (some ⟨g6b, 0, none⟩) K6.length cp6)) (w.heap.size + 1) [.slice none 0 0, .slice none 0 0, .bool false]) := hr6.out.other _ (by show w2.heap.size ≠ w.heap.size + 1; have := HW01.out; have := HW12.out; omega) _
  have HB7 : Hid (Below w.heap.size w (w6.setCell ⟨w2.heap.size, 1, none⟩ (.slice (some ⟨g6b, 0, none⟩) K6.length cp6))) := hw6.out.setCell (p := ⟨w2.heap.size, 1, none⟩) (by show w.heap.size ≤ w2.heap.size; have := HW01.out; have := HW12.out; omega) _
  have PA7 : Hid (Parts w1.heap.size (w6.setCell ⟨w2.heap.size, 1, none⟩ (.slice (some ⟨g6b, 0, none⟩) K6.length cp6)) (.slice x1 y1 u1) (.slice (some ⟨g6b, 0, none⟩) K6.length cp6) H K6) := P6'.out.store ⟨w2.heap.size, 1, none⟩ AV6.out _
  generalize w6.setCell ⟨w2.heap.size, 1, none⟩ (.slice (some ⟨g6b, 0, none⟩) K6.length cp6) = W7 at *
  refine NoPanic.normal ?_
  obtain ⟨t0, t1, t2⟩ := BT7.out.three
  obtain ⟨q0, q1, q2⟩ := BR7.out.three
  have f0 := BR7.out.frozen 0
  have f1 := BR7.out.frozen 1
  have f2 := BR7.out.frozen 2
  have hRT : w.heap.size + 1 < w2.heap.size := Nat.lt_of_lt_of_le HW01.out HW12.out
  go_wp2_with fail
  have z := ((BR7.out.set 0 (.slice x1 y1 u1)).set 1 (.slice (some ⟨g6b, 0, none⟩) K6.length cp6)).set 2 (.bool dd)
  obtain ⟨z0, z1, z2⟩ := z.three
  have hl : w.heap.size + 1 < w1.heap.size := HW01.out
  exact bodyPost_ret (v := .agg #[.slice x1 y1 u1, .slice (some ⟨g6b, 0, none⟩) K6.length cp6, .bool dd]) (by simp [results, Try.results85, go_sem, z0, z1, z2]) rfl
    ⟨_, rfl, ((((PA7.out.setCell ⟨w.heap.size + 1, 0, none⟩ hl _).setCell ⟨w.heap.size + 1, 1, none⟩ hl _).setCell ⟨w.heap.size + 1, 2, none⟩ hl _).mono (by omega : w.heap.size ≤ w1.heap.size)).dev (D := rput D at_ l) HHl.out HK6.out dd HD.out,
      ((HB7.out.setCell (p := ⟨w.heap.size + 1, 0, none⟩) (Nat.le_succ _) _).setCell (p := ⟨w.heap.size + 1, 1, none⟩) (Nat.le_succ _) _).setCell (p := ⟨w.heap.size + 1, 2, none⟩) (Nat.le_succ _) _⟩

def rwriteD (D : Dv) (at_ : Int) (l : List Nat) : Dv := if DK.wcode' D at_ l = 0 then rput D at_ l else DK.Dv.nil

end Go.Proofs.Ytnhfkfihlkbkfaa.PW

namespace Go.Proofs.Ytnhfkfihlkbkfaa.PW
open Go.RowKit
open DK (Dv)
set_option linter.unusedVariables false
set_option maxRecDepth 100000
set_option linter.unusedSimpArgs false

def left_ (at_ : Int) (ws : List (Int × List Nat)) : List (Int × List Nat) := (ws.filter (fun p => decide (p.1 ≠ at_))).map DK.fw
def rsure (D : Dv) (at_ : Int) (l : List Nat) : Dv := ⟨D.bs.set at_.toNat (DK.fl l), left_ at_ D.ws, D.dead⟩
theorem left_snoc (at_ : Int) (ws : List (Int × List Nat)) (p : Int × List Nat) : left_ at_ (ws ++ [p]) = if p.1 = at_ then left_ at_ ws else left_ at_ ws ++ [DK.fw p] := by
  unfold left_
  rw [List.filter_append]
  split
  · next h => simp [h]
  · next h => simp [h]
theorem left_take {at_ : Int} {ws : List (Int × List Nat)} {k : Nat} (h : k < ws.length) {z : Int} {x : List Nat} (e : ws.getD k (0, []) = (z, x)) : left_ at_ (ws.take (k + 1)) = if z = at_ then left_ at_ (ws.take k) else left_ at_ (ws.take k) ++ [(z, DK.fl x)] := by
  rw [List.take_succ_eq_append_getElem h, left_snoc]
  have : ws[k] = (z, x) := by rw [← e]; simp [List.getD, h]
  rw [this]
  rfl
theorem has_of_wcode {D : Dv} {at_ : Int} {l : List Nat} (h0 : DK.wcode D at_ l = 0) : DK.has D at_ = true := by
  rcases Bool.eq_false_or_eq_true (DK.has D at_) with h | h
  · exact h
  · exfalso; revert h0; simp [DK.wcode, h]; split <;> simp

set_option maxRecDepth 100000 in
set_option maxHeartbeats 1000000 in
theorem refSure_any (a : Option Addr) (n c : Nat) (a' : Option Addr) (n' c' : Nat) (D : Dv) (at_ : Int) (b : Option Addr) (len cap : Nat) (l : List Nat) (w : World) (hr : DevAt w.heap.size w a n c a' n' c' D) (hf : Fit D) (hq : Rd w.heap.size w b len cap l) (hll : l.length ≤ 100000) (hm : DK.has D at_ = true) :
    Calls Try.prog 86 #[.agg #[.slice a n c, .slice a' n' c', .bool D.dead], .int .i64 at_, .slice b len cap] w (TheDev w (rsure D at_ l)) := by
  have hb1 : Below w.heap.size w ((w.alloc (.cells #[.slice a n c, .slice a' n' c', .bool D.dead] 37)).alloc (.cells #[.slice none 0 0, .slice none 0 0, .bool false] 37)) := ((Below.refl _ _).alloc (Nat.le_refl _) _).alloc (by simp) _
  have bD := (Bx.new w [.slice a n c, .slice a' n' c', .bool D.dead] 37).alloc (.cells #[.slice none 0 0, .slice none 0 0, .bool false] 37)
  have bR := Bx.new (w.alloc (.cells #[.slice a n c, .slice a' n' c', .bool D.dead] 37)) [.slice none 0 0, .slice none 0 0, .bool false] 37
  simp only [World.size_alloc] at bR
  have CT : Hid (∀ w1, Below w.heap.size w w1 → Calls Try.prog 51 #[.agg #[.slice a n c, .slice a' n' c', .bool D.dead]] w1 (TheDev w1 D)) := fun w1 h => refTwin_any a n c a' n' c' D w1 (hr.here h) hf
  have CC : Hid (∀ w1, Below w.heap.size w w1 → Calls Try.prog 59 #[.slice b len cap] w1 (NewSl w1 (DK.fl l))) := fun w1 h => refFull_new b len cap l w1 (hq.here h) hll
  have CF : Hid (∀ w1 xa xlen xcap xl, Rd w1.heap.size w1 xa xlen xcap xl → xl.length ≤ 100000 → Calls Try.prog 59 #[.slice xa xlen xcap] w1 (NewSl w1 (DK.fl xl))) := fun w1 xa xlen xcap xl h hx => refFull_new xa xlen xcap xl w1 h hx
  obtain ⟨hm1, hm2⟩ := DK.has_iff.1 hm
  obtain ⟨m, rfl⟩ := Int.eq_ofNat_of_zero_le hm1
  have Hn := Lib.hid hr.long
  have hmn : m < n := by have := Hn.out.1; omega
  have hs := hr.small.1
  have hs' := hr.small.2
  unfold maxLen at hs hs'
  have HF := Lib.hid hf
  have Hr := Lib.hid hr
  have HB := Lib.hid hb1
  have BD := Lib.hid bD
  have BR := Lib.hid bR
  clear hb1 bD bR hr hf hq hll hm hm1 hm2
  obtain ⟨dd, hdd⟩ : ∃ dd, dd = D.dead := ⟨_, rfl⟩
  have HD := Lib.hid hdd
  rw [← hdd] at CT HB BD BR ⊢
  clear hdd
  go_enter Try.func86, Try.ntmps86
  go_wp2_with fail
  have CT1 := Lib.hid (CT.out _ HB.out)
  generalize (w.alloc (.cells #[.slice a n c, .slice a' n' c', .bool dd] 37)).alloc (.cells #[.slice none 0 0, .slice none 0 0, .bool false] 37) = w1 at *
  have BR1 := Lib.hid BR.out
  have HB1 := Lib.hid HB.out
  clear CT
  refine CT1.out.mono ?_
  rintro e w2 ⟨v, rfl, od, b2⟩
  obtain ⟨x1, y1, u1, x2, y2, u2, H, K, rfl, pa, hH, hK, hy1, hy2⟩ := od.parts
  have hyn : y1 = n := by rw [hy1, ← lists_length, hH, Hn.out.1]
  obtain ⟨gv, cp, hgv, hgv1, hgv2, hgv3, hgv4⟩ := pa.bl.own.form (by rw [← hy1]; omega)
  obtain ⟨rfl, rfl⟩ : x1 = some ⟨gv, 0, none⟩ ∧ u1 = cp := by injection hgv with p q r; exact ⟨p, r⟩
  subst hyn
  have HHl := Lib.hid hH
  have HY1 := Lib.hid hy1
  have HGV1 := Lib.hid hgv1
  rw [← HD.out]
  have bR := BR1.out.here b2
  have bDD := BD.out.here b2
  have hB2 := thence HB1.out b2 (Nat.le_refl _)
  have bT := Bx.new w2 [.slice (some ⟨gv, 0, none⟩) y1 u1, .slice x2 y2 u2, .bool dd] 37
  have al : Below w2.heap.size w2 (w2.alloc (.cells [Value.slice (some ⟨gv, 0, none⟩) y1 u1, .slice x2 y2 u2, .bool dd].toArray 37)) := (Below.refl _ _).alloc (Nat.le_refl _) _
  have PA : Hid (Parts w1.heap.size (w2.alloc (.cells [Value.slice (some ⟨gv, 0, none⟩) y1 u1, .slice x2 y2 u2, .bool dd].toArray 37)) (.slice (some ⟨gv, 0, none⟩) y1 u1) (.slice x2 y2 u2) H K) := pa.here al
  have BT := Lib.hid bT
  have BR2 : Hid (Bx (w2.alloc (.cells [Value.slice (some ⟨gv, 0, none⟩) y1 u1, .slice x2 y2 u2, .bool dd].toArray 37)) (w.heap.size + 1) [.slice none 0 0, .slice none 0 0, .bool false]) := bR.here al
  have BD2 : Hid (Bx (w2.alloc (.cells [Value.slice (some ⟨gv, 0, none⟩) y1 u1, .slice x2 y2 u2, .bool dd].toArray 37)) w.heap.size [.slice a y1 c, .slice a' n' c', .bool dd]) := bDD.here al
  have HB2 : Hid (Below w.heap.size w (w2.alloc (.cells [Value.slice (some ⟨gv, 0, none⟩) y1 u1, .slice x2 y2 u2, .bool dd].toArray 37))) := thence hB2 al (Nat.le_refl _)
  have HW12 : Hid (w1.heap.size ≤ w2.heap.size) := b2.size
  have AV : Hid (Avoid w2.heap.size (.slice (some ⟨gv, 0, none⟩) y1 u1) (.slice x2 y2 u2) H K) := pa.avoid (.inr (Nat.le_refl _))
  have HWa : Hid ((w2.alloc (.cells [Value.slice (some ⟨gv, 0, none⟩) y1 u1, .slice x2 y2 u2, .bool dd].toArray 37)).heap.size = w2.heap.size + 1) := by show _ = _; simp
  have HW01 : Hid (w.heap.size + 1 < w1.heap.size) := BR1.out.lt
  have HRW : Hid (∀ e, (Value.slice x2 y2 u2).ownBlock = some e → w1.heap.size ≤ e ∧ e < w2.heap.size) := fun e he => pa.wa.lt e he
  have HGV2 := Lib.hid hgv2
  clear bR bDD hB2 bT al pa hH hK hy1 hy2 od b2 CT1 hgv hgv1 hgv2 hgv3 hgv4
  go_wp2_with fail
  generalize hW3 : w2.alloc (.cells #[.slice (some ⟨gv, 0, none⟩) y1 u1, .slice x2 y2 u2, .bool dd] 37) = W3
  replace PA : Hid (Parts w1.heap.size W3 (.slice (some ⟨gv, 0, none⟩) y1 u1) (.slice x2 y2 u2) H K) := by rw [← hW3]; exact PA.out
  replace BT : Hid (Bx W3 w2.heap.size [.slice (some ⟨gv, 0, none⟩) y1 u1, .slice x2 y2 u2, .bool dd]) := by rw [← hW3]; exact BT.out
  replace BR2 : Hid (Bx W3 (w.heap.size + 1) [.slice none 0 0, .slice none 0 0, .bool false]) := by rw [← hW3]; exact BR2.out
  replace BD2 : Hid (Bx W3 w.heap.size [.slice a y1 c, .slice a' n' c', .bool dd]) := by rw [← hW3]; exact BD2.out
  replace HB2 : Hid (Below w.heap.size w W3) := by rw [← hW3]; exact HB2.out
  replace HWa : Hid (W3.heap.size = w2.heap.size + 1) := by rw [← hW3]; exact HWa.out
  clear hW3
  have gT : w2.heap.size < W3.heap.size := BT.out.lt
  have CC1 := Lib.hid (CC.out W3.drew HB2.out.drew)
  have hmi : (m : Int) < (y1 : Int) := by omega
  refine wp_region_noPanic ?_
  refine PX.wp_region_x (fun w' => w'.cell? ⟨w2.heap.size, 0, none⟩ = some (.slice (some ⟨gv, 0, none⟩) y1 u1)) 6 (by kernel_rfl) BT.out.drew.three.1 (fun hHeld => ?_)
  refine PX.wpAnyX_take (i := 0) (oi := ?_) (v := ?_) ?_ (by kernel_rfl) (by kernel_rfl) (by kernel_rfl) (by kernel_rfl) (by kernel_rfl) (fun _ _ _ h => h) (Or.inl ⟨?_, ?_⟩) (by assumption) ?_
  rotate_left 2
  · simp only [List.getElem?_toArray, List.getElem?_cons_succ, List.getElem?_cons_zero]; rfl
  · rfl
  · intro w hSw; (try dsimp only at hSw); go_simp <;> with_reducible rfl
  (try simp only [Act.put, List.setIfInBounds_toArray, List.set_cons_zero, List.set_cons_succ])
  refine PX.wpAnyX_take (i := 1) (oi := ?_) (v := ?_) ?_ (by kernel_rfl) (by kernel_rfl) (by kernel_rfl) (by kernel_rfl) (by kernel_rfl) (fun _ _ _ h => h) (Or.inl ⟨?_, ?_⟩) (by assumption) ?_
  rotate_left 2
  · simp only [List.getElem?_toArray, List.getElem?_cons_succ, List.getElem?_cons_zero]; rfl
  · rfl
  · intro w hSw; (try dsimp only at hSw); go_simp <;> with_reducible rfl
  (try simp only [Act.put, List.setIfInBounds_toArray, List.set_cons_zero, List.set_cons_succ])
  refine PX.wpAnyX_take (i := 2) (oi := ?_) (v := ?_) ?_ (by kernel_rfl) (by kernel_rfl) (by kernel_rfl) (by kernel_rfl) (by kernel_rfl) (fun _ _ _ h => h) (Or.inl ⟨?_, ?_⟩) (by assumption) ?_
  rotate_left 2
  · simp only [List.getElem?_toArray, List.getElem?_cons_succ, List.getElem?_cons_zero]; rfl
  · rfl
  · intro w hSw; (try dsimp only at hSw); go_simp <;> with_reducible rfl
  (try simp only [Act.put, List.setIfInBounds_toArray, List.set_cons_zero, List.set_cons_succ])
  refine PX.wpAnyX_take (i := 3) (oi := ?_) (v := ?_) ?_ (by kernel_rfl) (by kernel_rfl) (by kernel_rfl) (by kernel_rfl) (by kernel_rfl) (fun _ _ _ h => h) (Or.inl ⟨?_, ?_⟩) (by assumption) ?_
  rotate_left 2
  · simp only [List.getElem?_toArray, List.getElem?_cons_succ, List.getElem?_cons_zero]; rfl
  · rfl
  · intro w hSw; (try dsimp only at hSw); go_simp <;> with_reducible rfl
  (try simp only [Act.put, List.setIfInBounds_toArray, List.set_cons_zero, List.set_cons_succ])
  refine PX.wpAnyX_one (i := 4) (o := ?_) (by kernel_rfl) ?_ (fun Kq hKq => ?_)
  rotate_left
  · simp only [List.getElem?_toArray, List.getElem?_cons_succ, List.getElem?_cons_zero]; rfl
  go_simp
  refine CC1.out.mono ?_
  rintro e w5 ⟨a5, n5, c5, rfl, it5, b5⟩
  have P5 : Hid (Parts w1.heap.size w5 (.slice (some ⟨gv, 0, none⟩) y1 u1) (.slice x2 y2 u2) H K) := (PA.out.here (Below.refl _ _).drew).here b5
  have I5 : Hid (Item W3.heap.size w5 ⟨a5, n5, c5, DK.fl l⟩) := it5
  have T5 := Lib.hid (BT.out.drew.here b5)
  have R5 := Lib.hid (BR2.out.drew.here b5)
  have D5 := Lib.hid (BD2.out.drew.here b5)
  have HB5 : Hid (Below w.heap.size w w5) := HB2.out.trans (((Below.refl _ _).drew.trans b5).mono HB2.out.size)
  have hmH : m < H.length := by rw [← HY1.out]; exact hmn
  have hcm := P5.out.bl.own.cell HY1.out m hmH
  have hfm := P5.out.bl.own.frozen HY1.out m
  generalize (H.getD m Hd.nil).val = ov at *
  clear it5 b5 hmH
  go_wp2_with fail
  refine hKq.out _ _ (T5.out.three.1) (fun hHeld => ?_)
  clear hKq Kq
  (try simp only [Act.put, List.setIfInBounds_toArray, List.set_cons_zero, List.set_cons_succ])
  refine PX.wpAnyX_one (i := 5) (o := ?_) (by kernel_rfl) ?_ (fun Kq hKq => ?_)
  rotate_left
  · simp only [List.getElem?_toArray, List.getElem?_cons_succ, List.getElem?_cons_zero]; rfl
  go_simp
  refine hKq.out _ _ (by assumption) (fun hHeld => ?_)
  clear hKq Kq
  (try simp only [Act.put, List.setIfInBounds_toArray, List.set_cons_zero, List.set_cons_succ])
  refine PX.wpAnyX_last (o := ?_) (by kernel_rfl) ?_ (fun Kq hKq => ?_)
  rotate_left
  · simp only [List.getElem?_toArray, List.getElem?_cons_succ, List.getElem?_cons_zero]; rfl
  go_simp
  refine hKq.out _ _ ?_
  clear hKq Kq
  (try simp only [Act.put, List.setIfInBounds_toArray, List.set_cons_zero, List.set_cons_succ])
  refine PX.wpAnyX_done (by kernel_rfl) ?_ _
  have IM : Hid (∀ b, a5 = some b → DK.fl l ≠ [] → W3.heap.size ≤ b.block) := fun b hb hl => (I5.out.block (b := b) hb hl).1
  have HG3 : Hid (gv < W3.heap.size) := by show gv < W3.heap.size; have h1 := HGV2.out; omega
  have HR3 : Hid (∀ e, (Value.slice x2 y2 u2).ownBlock = some e → e < W3.heap.size) := fun e he => by have h1 := (HRW.out e he).2; have h2 := HWa.out; omega
  have BT7 : Hid (Bx (w5.setCell ⟨gv, m, none⟩ (.slice a5 n5 c5)) w2.heap.size [.slice (some ⟨gv, 0, none⟩) y1 u1, .slice x2 y2 u2, .bool dd]) := T5.out.other _ (by show gv ≠ w2.heap.size; have h1 := HGV2.out; omega) _
  have BR7 : Hid (Bx (w5.setCell ⟨gv, m, none⟩ (.slice a5 n5 c5)) (w.heap.size + 1) [.slice none 0 0, .slice none 0 0, .bool false]) := R5.out.other _ (by show gv ≠ w.heap.size + 1; have h1 := HGV1.out; have h2 := HW01.out; omega) _
  have BD7 : Hid (Bx (w5.setCell ⟨gv, m, none⟩ (.slice a5 n5 c5)) w.heap.size [.slice a y1 c, .slice a' n' c', .bool dd]) := D5.out.other _ (by show gv ≠ w.heap.size; have h1 := HGV1.out; have h2 := HW01.out; omega) _
  have HB7 : Hid (Below w.heap.size w (w5.setCell ⟨gv, m, none⟩ (.slice a5 n5 c5))) := HB5.out.setCell (p := ⟨gv, m, none⟩) (by show w.heap.size ≤ gv; have h1 := HGV1.out; have h2 := HW01.out; omega) _
  have PA7 : Hid (Parts w1.heap.size (w5.setCell ⟨gv, m, none⟩ (.slice a5 n5 c5)) (.slice (some ⟨gv, 0, none⟩) y1 u1) (.slice x2 y2 u2) (H.set m ⟨a5, n5, c5, DK.fl l⟩) K) := P5.out.setBlock HY1.out m ⟨a5, n5, c5, DK.fl l⟩ (I5.out.mono (by have h1 := HW12.out; have h2 := HWa.out; omega)) (fun b hb hl => by have h1 := IM.out b hb hl; have h2 := HG3.out; omega) (fun b hb hl e => by have h1 := IM.out b hb hl; have h2 := HR3.out _ e; omega)
  have AV7 : Hid (Avoid w2.heap.size (.slice (some ⟨gv, 0, none⟩) y1 u1) (.slice x2 y2 u2) (H.set m ⟨a5, n5, c5, DK.fl l⟩) K) := ⟨AV.out.b, AV.out.w, fun z hz b hb hl e => by rcases List.mem_or_eq_of_mem_set hz with h | h; exact AV.out.h z h b hb hl e; subst h; have h1 := IM.out b hb hl; omega, AV.out.k⟩
  generalize w5.setCell ⟨gv, m, none⟩ (.slice a5 n5 c5) = W7 at *
  refine NoPanic.normal ?_
  obtain ⟨t0, t1, t2⟩ := BT7.out.three
  have hTf1 := BT7.out.frozen 1
  have PA8 : Hid (Parts w1.heap.size (W7.setCell ⟨w2.heap.size, 1, none⟩ (.slice none 0 0)) (.slice (some ⟨gv, 0, none⟩) y1 u1) (.slice x2 y2 u2) (H.set m ⟨a5, n5, c5, DK.fl l⟩) K) := PA7.out.store ⟨w2.heap.size, 1, none⟩ AV7.out _
  have BT8 : Hid (Bx (W7.setCell ⟨w2.heap.size, 1, none⟩ (.slice none 0 0)) w2.heap.size [.slice (some ⟨gv, 0, none⟩) y1 u1, .slice none 0 0, .bool dd]) := BT7.out.set 1 _
  have BR8 : Hid (Bx (W7.setCell ⟨w2.heap.size, 1, none⟩ (.slice none 0 0)) (w.heap.size + 1) [.slice none 0 0, .slice none 0 0, .bool false]) := BR7.out.other _ (by show w2.heap.size ≠ w.heap.size + 1; have h1 := HW01.out; have h2 := HW12.out; omega) _
  have BD8 : Hid (Bx (W7.setCell ⟨w2.heap.size, 1, none⟩ (.slice none 0 0)) w.heap.size [.slice a y1 c, .slice a' n' c', .bool dd]) := BD7.out.other _ (by show w2.heap.size ≠ w.heap.size; have h1 := HW01.out; have h2 := HW12.out; omega) _
  have HB8 : Hid (Below w.heap.size w (W7.setCell ⟨w2.heap.size, 1, none⟩ (.slice none 0 0))) := HB7.out.setCell (p := ⟨w2.heap.size, 1, none⟩) (by show w.heap.size ≤ w2.heap.size; have h1 := HW01.out; have h2 := HW12.out; omega) _
  go_wp2_with fail
  generalize W7.setCell ⟨w2.heap.size, 1, none⟩ (.slice none 0 0) = W8 at *
  have HL8 : Hid (lists (H.set m ⟨a5, n5, c5, DK.fl l⟩) = (rsure D (m : Int) l).bs) := by show _ = _; rw [lists_set, HHl.out]; rfl
  generalize H.set m ⟨a5, n5, c5, DK.fl l⟩ = H8 at *
  clear t0 t1 t2 hTf1 hfm hcm PA7 BT7 BR7 BD7 HB7 P5 I5 T5 R5 D5 HB5
  go_loopw [8] (fun i wr => ∃ (k : Nat) (v' : Value) (K' : List Wr), k ≤ n' ∧ i = .int .i64 k ∧ Hid (W8.grownBy wr (some w2.heap.size)) ∧ Hid (Bx wr w2.heap.size [.slice (some ⟨gv, 0, none⟩) y1 u1, v', .bool dd]) ∧ Hid (GrowW W8.heap.size wr v' K') ∧ Hid (K'.length ≤ k) ∧ Hid (wlist K' = left_ (m : Int) (D.ws.take k))) (fun i _ => n' - (intOf i).toNat)
  case atStart => exact ⟨0, _, [], by omega, rfl, World.grownBy.refl _ _, BT8.out, GrowW.nil _ _, (Nat.le_refl 0 : ([] : List Wr).length ≤ 0), (rfl : wlist [] = left_ (m : Int) (D.ws.take 0))⟩
  case round =>
    obtain ⟨k, v', K', hk, rfl, GB2, B32, GR2, HK2, HL2⟩ := hrel
    have HW8 : Hid (w2.heap.size < W8.heap.size) := BT8.out.lt
    have kb2 : Hid (Below w.heap.size w wr) := HB8.out.trans (Below.ofGrown GB2.out (Nat.le_of_lt (Nat.lt_of_lt_of_le BD8.out.lt (Nat.le_refl _))) (fun b e => by injection e with e; have h1 := HW01.out; have h2 := HW12.out; omega))
    have hx0 := BD8.out.grown GB2.out (by intro e; injection e with e; have h1 := HW01.out; have h2 := HW12.out; omega)
    have HXr := Lib.hid hx0
    have hlg0 : w.heap.size < wr.heap.size := hx0.lt
    obtain ⟨d0, d1, d2⟩ := hx0.three
    clear hx0
    by_cases hlt : k < n'
    · obtain ⟨b, off, z, xa, xlen, xcap, xl, rfl, hbB, hx, hcell, hcell2, hxr⟩ := (Hr.out.below kb2.out).wat k hlt
      have hx1000 : xl.length ≤ 100000 := (by
        have := HF.out.2.2.2 _ (mem_getD (d := (0, [])) (k := k) (by rw [← Hn.out.2]; exact hlt))
        rw [hx] at this; exact this)
      have hbr : b < wr.heap.size := Nat.lt_trans hbB hlg0
      have LT := Lib.hid (left_take (at_ := (m : Int)) (by rw [← Hn.out.2]; exact hlt) hx)
      have hlg : w2.heap.size < wr.heap.size := B32.out.lt
      have i0 : (0 : Int) ≤ (k : Int) := Int.natCast_nonneg _
      have i1 : (k : Int) < (n' : Int) := by omega
      have Hlt := Lib.hid hlt
      have CF1 := Lib.hid (CF.out wr.drew xa xlen xcap xl ((hxr.mono (Nat.le_of_lt hlg0)).drewN 1) hx1000)
      by_cases he : z = (m : Int)
      · have e1 : (z != (m : Int)) = false := by rw [bne_eq_false_iff_eq]; exact he
        have hL := LT.out
        rw [if_pos he] at hL
        have HL6 := Lib.hid hL
        clear hL hx hxr hx1000 he CF1 LT
        go_wp2_with fail
        go_roundw
        case rel => exact ⟨k + 1, v', K', by have := Hlt.out; omega, by go_num, GB2.out, B32.out, GR2.out, Nat.le_succ_of_le HK2.out, HL2.out.trans HL6.out.symm⟩
        case measure => have := Hlt.out; simp [intOf]; omega
      · have e1 : (z != (m : Int)) = true := by rw [bne_iff_ne]; exact he
        have hL := LT.out
        rw [if_neg he] at hL
        have HL6 := Lib.hid hL
        have hfz : wr.drew.frozen? ⟨w2.heap.size, 1, none⟩ = false := B32.out.drew.frozen 1
        clear hL hx hxr hx1000 he LT
        go_wp2_with fail
        have HC : Hid (wr.cell? ⟨b, off + k * 2, none⟩ = some (.int .i64 z) ∧ wr.cell? ⟨b, off + k * 2 + 1, none⟩ = some (.slice xa xlen xcap)) := ⟨hcell, hcell2⟩
        refine wp_region_noPanic ?_
        refine PX.wp_region_x (fun w' => w'.cell? ⟨w2.heap.size, 1, none⟩ = some v' ∧ w'.cell? ⟨w.heap.size, 1, none⟩ = some (.slice (some ⟨b, off, none⟩) n' c') ∧ w'.cell? ⟨b, off + k * 2, none⟩ = some (.int .i64 z) ∧ w'.cell? ⟨b, off + k * 2 + 1, none⟩ = some (.slice xa xlen xcap)) 19 (by kernel_rfl) ⟨B32.out.drew.three.2.1, HXr.out.drew.three.2.1, hcell, hcell2⟩ (fun hHeld => ?_)
        refine PX.wpAnyX_take (i := 0) (oi := ?_) (v := ?_) ?_ (by kernel_rfl) (by kernel_rfl) (by kernel_rfl) (by kernel_rfl) (by kernel_rfl) (fun _ _ _ h => h) (Or.inl ⟨?_, ?_⟩) (by assumption) ?_
        rotate_left 2
        · simp only [List.getElem?_toArray, List.getElem?_cons_succ, List.getElem?_cons_zero]; rfl
        · rfl
        · intro w hSw; (try dsimp only at hSw); go_simp <;> with_reducible rfl
        (try simp only [Act.put, List.setIfInBounds_toArray, List.set_cons_zero, List.set_cons_succ])
        refine PX.wpAnyX_take (i := 1) (oi := ?_) (v := ?_) ?_ (by kernel_rfl) (by kernel_rfl) (by kernel_rfl) (by kernel_rfl) (by kernel_rfl) (fun _ _ _ h => h) (Or.inl ⟨?_, ?_⟩) (by assumption) ?_
        rotate_left 2
        · simp only [List.getElem?_toArray, List.getElem?_cons_succ, List.getElem?_cons_zero]; rfl
        · rfl
        · intro w hSw; (try dsimp only at hSw); go_simp <;> with_reducible rfl
        (try simp only [Act.put, List.setIfInBounds_toArray, List.set_cons_zero, List.set_cons_succ])
        refine PX.wpAnyX_take (i := 2) (oi := ?_) (v := ?_) ?_ (by kernel_rfl) (by kernel_rfl) (by kernel_rfl) (by kernel_rfl) (by kernel_rfl) (fun _ _ _ h => h) (Or.inl ⟨?_, ?_⟩) (by assumption) ?_
        rotate_left 2
        · simp only [List.getElem?_toArray, List.getElem?_cons_succ, List.getElem?_cons_zero]; rfl
        · rfl
        · intro w hSw; (try dsimp only at hSw); go_simp <;> with_reducible rfl
        (try simp only [Act.put, List.setIfInBounds_toArray, List.set_cons_zero, List.set_cons_succ])
        refine PX.wpAnyX_take (i := 3) (oi := ?_) (v := ?_) ?_ (by kernel_rfl) (by kernel_rfl) (by kernel_rfl) (by kernel_rfl) (by kernel_rfl) (fun _ _ _ h => h) (Or.inl ⟨?_, ?_⟩) (by assumption) ?_
        rotate_left 2
        · simp only [List.getElem?_toArray, List.getElem?_cons_succ, List.getElem?_cons_zero]; rfl
        · rfl
        · intro w hSw; (try dsimp only at hSw); go_simp <;> with_reducible rfl
        (try simp only [Act.put, List.setIfInBounds_toArray, List.set_cons_zero, List.set_cons_succ])
        refine PX.wpAnyX_take (i := 4) (oi := ?_) (v := ?_) ?_ (by kernel_rfl) (by kernel_rfl) (by kernel_rfl) (by kernel_rfl) (by kernel_rfl) (fun _ _ _ h => h) (Or.inl ⟨?_, ?_⟩) (by assumption) ?_
        rotate_left 2
        · simp only [List.getElem?_toArray, List.getElem?_cons_succ, List.getElem?_cons_zero]; rfl
        · rfl
        · intro w hSw; (try dsimp only at hSw); go_simp <;> with_reducible rfl
        (try simp only [Act.put, List.setIfInBounds_toArray, List.set_cons_zero, List.set_cons_succ])
        refine PX.wpAnyX_take (i := 5) (oi := ?_) (v := ?_) ?_ (by kernel_rfl) (by kernel_rfl) (by kernel_rfl) (by kernel_rfl) (by kernel_rfl) (fun _ _ _ h => h) (Or.inl ⟨?_, ?_⟩) (by assumption) ?_
        rotate_left 2
        · simp only [List.getElem?_toArray, List.getElem?_cons_succ, List.getElem?_cons_zero]; rfl
        · rfl
        · intro w hSw; (try dsimp only at hSw); go_simp <;> with_reducible rfl
        (try simp only [Act.put, List.setIfInBounds_toArray, List.set_cons_zero, List.set_cons_succ])
        refine PX.wpAnyX_take (i := 6) (oi := ?_) (v := ?_) ?_ (by kernel_rfl) (by kernel_rfl) (by kernel_rfl) (by kernel_rfl) (by kernel_rfl) (fun _ _ _ h => h) (Or.inl ⟨?_, ?_⟩) (by assumption) ?_
        rotate_left 2
        · simp only [List.getElem?_toArray, List.getElem?_cons_succ, List.getElem?_cons_zero]; rfl
        · rfl
        · intro w hSw; (try dsimp only at hSw); go_simp <;> with_reducible rfl
        (try simp only [Act.put, List.setIfInBounds_toArray, List.set_cons_zero, List.set_cons_succ])
        refine PX.wpAnyX_take (i := 7) (oi := ?_) (v := ?_) ?_ (by kernel_rfl) (by kernel_rfl) (by kernel_rfl) (by kernel_rfl) (by kernel_rfl) (fun _ _ _ h => h) (Or.inl ⟨?_, ?_⟩) (by assumption) ?_
        rotate_left 2
        · simp only [List.getElem?_toArray, List.getElem?_cons_succ, List.getElem?_cons_zero]; rfl
        · rfl
        · intro w hSw; (try dsimp only at hSw); go_simp <;> with_reducible rfl
        (try simp only [Act.put, List.setIfInBounds_toArray, List.set_cons_zero, List.set_cons_succ])
        refine PX.wpAnyX_take (i := 8) (oi := ?_) (v := ?_) ?_ (by kernel_rfl) (by kernel_rfl) (by kernel_rfl) (by kernel_rfl) (by kernel_rfl) (fun _ _ _ h => h) (Or.inl ⟨?_, ?_⟩) (by assumption) ?_
        rotate_left 2
        · simp only [List.getElem?_toArray, List.getElem?_cons_succ, List.getElem?_cons_zero]; rfl
        · rfl
        · intro w hSw; (try dsimp only at hSw); go_simp <;> with_reducible rfl
        (try simp only [Act.put, List.setIfInBounds_toArray, List.set_cons_zero, List.set_cons_succ])
        refine PX.wpAnyX_take (i := 9) (oi := ?_) (v := ?_) ?_ (by kernel_rfl) (by kernel_rfl) (by kernel_rfl) (by kernel_rfl) (by kernel_rfl) (fun _ _ _ h => h) (Or.inl ⟨?_, ?_⟩) (by assumption) ?_
        rotate_left 2
        · simp only [List.getElem?_toArray, List.getElem?_cons_succ, List.getElem?_cons_zero]; rfl
        · rfl
        · intro w hSw; (try dsimp only at hSw); go_simp <;> with_reducible rfl
        (try simp only [Act.put, List.setIfInBounds_toArray, List.set_cons_zero, List.set_cons_succ])
        refine PX.wpAnyX_take (i := 10) (oi := ?_) (v := ?_) ?_ (by kernel_rfl) (by kernel_rfl) (by kernel_rfl) (by kernel_rfl) (by kernel_rfl) (fun _ _ _ h => h) (Or.inl ⟨?_, ?_⟩) (by assumption) ?_
        rotate_left 2
        · simp only [List.getElem?_toArray, List.getElem?_cons_succ, List.getElem?_cons_zero]; rfl
        · rfl
        · intro w hSw; (try dsimp only at hSw); go_simp <;> with_reducible rfl
        (try simp only [Act.put, List.setIfInBounds_toArray, List.set_cons_zero, List.set_cons_succ])
        refine PX.wpAnyX_take (i := 11) (oi := ?_) (v := ?_) ?_ (by kernel_rfl) (by kernel_rfl) (by kernel_rfl) (by kernel_rfl) (by kernel_rfl) (fun _ _ _ h => h) (Or.inl ⟨?_, ?_⟩) (by assumption) ?_
        rotate_left 2
        · simp only [List.getElem?_toArray, List.getElem?_cons_succ, List.getElem?_cons_zero]; rfl
        · rfl
        · intro w hSw; (try dsimp only at hSw); go_simp <;> with_reducible rfl
        (try simp only [Act.put, List.setIfInBounds_toArray, List.set_cons_zero, List.set_cons_succ])
        refine PX.wpAnyX_take (i := 12) (oi := ?_) (v := ?_) ?_ (by kernel_rfl) (by kernel_rfl) (by kernel_rfl) (by kernel_rfl) (by kernel_rfl) (fun _ _ _ h => h) (Or.inl ⟨?_, ?_⟩) (by assumption) ?_
        rotate_left 2
        · simp only [List.getElem?_toArray, List.getElem?_cons_succ, List.getElem?_cons_zero]; rfl
        · rfl
        · intro w hSw; (try dsimp only at hSw); go_simp <;> with_reducible rfl
        (try simp only [Act.put, List.setIfInBounds_toArray, List.set_cons_zero, List.set_cons_succ])
        refine PX.wpAnyX_take (i := 13) (oi := ?_) (v := ?_) ?_ (by kernel_rfl) (by kernel_rfl) (by kernel_rfl) (by kernel_rfl) (by kernel_rfl) (fun _ _ _ h => h) (Or.inl ⟨?_, ?_⟩) (by assumption) ?_
        rotate_left 2
        · simp only [List.getElem?_toArray, List.getElem?_cons_succ, List.getElem?_cons_zero]; rfl
        · rfl
        · intro w hSw; (try dsimp only at hSw); go_simp <;> with_reducible rfl
        (try simp only [Act.put, List.setIfInBounds_toArray, List.set_cons_zero, List.set_cons_succ])
        refine PX.wpAnyX_one (i := 14) (o := ?_) (by kernel_rfl) ?_ (fun Kq hKq => ?_)
        rotate_left
        · simp only [List.getElem?_toArray, List.getElem?_cons_succ, List.getElem?_cons_zero]; rfl
        go_simp
        refine CF1.out.mono ?_
        rintro e w5 ⟨a5, n5, c5, rfl, it5, b5⟩
        obtain ⟨v6, w6, r6, G6, g6⟩ := (GR2.out.drew).step (Nat.le_trans GB2.out.size (Nat.le_refl _)) (by have h1 := HK2.out; have h2 := HF.out.2.1; have h3 := Hn.out.2; have h4 := Hlt.out; omega) b5 z it5
        have hn6 : (K' ++ [(⟨z, ⟨a5, n5, c5, DK.fl xl⟩⟩ : Wr)]).length ≤ k + 1 := by rw [List.length_append]; exact Nat.succ_le_succ HK2.out
        have hn6' : 0 < (K' ++ [(⟨z, ⟨a5, n5, c5, DK.fl xl⟩⟩ : Wr)]).length := by rw [List.length_append]; exact Nat.succ_pos _
        have hl6 : wlist (K' ++ [(⟨z, ⟨a5, n5, c5, DK.fl xl⟩⟩ : Wr)]) = left_ (m : Int) (D.ws.take (k + 1)) := by rw [wlist_append, HL2.out, HL6.out]; rfl
        generalize K' ++ [(⟨z, ⟨a5, n5, c5, DK.fl xl⟩⟩ : Wr)] = K6 at *
        obtain ⟨g6b, cp6, rfl, hg6a, hg6b, hg6c, hg6d⟩ := G6.own.form hn6'
        have hvb : ∀ e, v'.ownBlock = some e → w2.heap.size < e := fun e he => Nat.lt_of_lt_of_le HW8.out (GR2.out.lt _ he).1
        have hb6 : Hid (Bx w6 w2.heap.size [.slice (some ⟨gv, 0, none⟩) y1 u1, v', .bool dd]) := ((B32.out.drew.here b5).alloc _).grown g6 (fun e => by have := hvb _ e; omega)
        have hd6 : Hid (Bx w6 w.heap.size [.slice a y1 c, .slice (some ⟨b, off, none⟩) n' c', .bool dd]) := ((HXr.out.drew.here b5).alloc _).grown g6 (fun e => by have := hvb _ e; have h1 := HW01.out; have h2 := HW12.out; omega)
        have hf6 := hb6.out.frozen 1
        have HC5 : Hid (w5.cell? ⟨b, off + k * 2, none⟩ = some (.int .i64 z) ∧ w5.cell? ⟨b, off + k * 2 + 1, none⟩ = some (.slice xa xlen xcap)) := by
          show _ ∧ _
          rw [b5.cell (p := ⟨b, off + k * 2, none⟩) hbr, b5.cell (p := ⟨b, off + k * 2 + 1, none⟩) hbr]; exact HC.out
        have HC6 : Hid ((w5.alloc (.cells #[.int .i64 z, .slice a5 n5 c5] 64)).cell? ⟨b, off + k * 2, none⟩ = some (.int .i64 z) ∧ (w5.alloc (.cells #[.int .i64 z, .slice a5 n5 c5] 64)).cell? ⟨b, off + k * 2 + 1, none⟩ = some (.slice xa xlen xcap)) := by
          show _ ∧ _
          have ha := b5.alloc b5.size (.cells #[.int .i64 z, .slice a5 n5 c5] 64)
          rw [ha.cell (p := ⟨b, off + k * 2, none⟩) hbr, ha.cell (p := ⟨b, off + k * 2 + 1, none⟩) hbr]; exact HC.out
        have HC7 : Hid (w6.cell? ⟨b, off + k * 2, none⟩ = some (.int .i64 z) ∧ w6.cell? ⟨b, off + k * 2 + 1, none⟩ = some (.slice xa xlen xcap)) := by
          show _ ∧ _
          have hsz := Nat.lt_of_lt_of_le hbr (b5.alloc b5.size (.cells #[.int .i64 z, .slice a5 n5 c5] 64)).size
          rw [World.grownBy.cell_far g6 ⟨b, off + k * 2, none⟩ hsz (fun e => by have h4 : w2.heap.size < b := hvb _ e.symm; have h1 := HW01.out; have h2 := HW12.out; omega), World.grownBy.cell_far g6 ⟨b, off + k * 2 + 1, none⟩ hsz (fun e => by have h4 : w2.heap.size < b := hvb _ e.symm; have h1 := HW01.out; have h2 := HW12.out; omega)]; exact HC6.out
        have HN6 := Lib.hid hn6
        have HLL6 := Lib.hid hl6
        have R6 := Lib.hid r6
        have G6' := Lib.hid G6
        have g6' := Lib.hid g6
        have B5 := Lib.hid b5
        clear hn6 hn6' hl6 hg6a hg6b hg6c hg6d r6 G6 g6 b5 it5 hvb
        go_wp2_with fail
        refine hKq.out _ _ (⟨(B32.out.drew.here B5.out).three.2.1, (HXr.out.drew.here B5.out).three.2.1, HC5.out⟩) (fun hHeld => ?_)
        clear hKq Kq
        (try simp only [Act.put, List.setIfInBounds_toArray, List.set_cons_zero, List.set_cons_succ])
        refine PX.wpAnyX_one (i := 15) (o := ?_) (by kernel_rfl) ?_ (fun Kq hKq => ?_)
        rotate_left
        · simp only [List.getElem?_toArray, List.getElem?_cons_succ, List.getElem?_cons_zero]; rfl
        go_simp
        refine hKq.out _ _ (by assumption) (fun hHeld => ?_)
        clear hKq Kq
        (try simp only [Act.put, List.setIfInBounds_toArray, List.set_cons_zero, List.set_cons_succ])
        refine PX.wpAnyX_one (i := 16) (o := ?_) (by kernel_rfl) ?_ (fun Kq hKq => ?_)
        rotate_left
        · simp only [List.getElem?_toArray, List.getElem?_cons_succ, List.getElem?_cons_zero]; rfl
        go_simp
        refine hKq.out _ _ (⟨((B32.out.drew.here B5.out).alloc _).three.2.1, ((HXr.out.drew.here B5.out).alloc _).three.2.1, HC6.out⟩) (fun hHeld => ?_)
        clear hKq Kq
        (try simp only [Act.put, List.setIfInBounds_toArray, List.set_cons_zero, List.set_cons_succ])
        refine PX.wpAnyX_one (i := 17) (o := ?_) (by kernel_rfl) ?_ (fun Kq hKq => ?_)
        rotate_left
        · simp only [List.getElem?_toArray, List.getElem?_cons_succ, List.getElem?_cons_zero]; rfl
        refine PX.step_append_run _ _ _ _ (by rfl) (by rfl) R6.out ?_
        refine hKq.out _ _ (⟨hb6.out.three.2.1, hd6.out.three.2.1, HC7.out⟩) (fun hHeld => ?_)
        clear hKq Kq
        (try simp only [Act.put, List.setIfInBounds_toArray, List.set_cons_zero, List.set_cons_succ])
        refine PX.wpAnyX_one (i := 18) (o := ?_) (by kernel_rfl) ?_ (fun Kq hKq => ?_)
        rotate_left
        · simp only [List.getElem?_toArray, List.getElem?_cons_succ, List.getElem?_cons_zero]; rfl
        go_simp
        refine hKq.out _ _ (by assumption) (fun hHeld => ?_)
        clear hKq Kq
        (try simp only [Act.put, List.setIfInBounds_toArray, List.set_cons_zero, List.set_cons_succ])
        refine PX.wpAnyX_last (o := ?_) (by kernel_rfl) ?_ (fun Kq hKq => ?_)
        rotate_left
        · simp only [List.getElem?_toArray, List.getElem?_cons_succ, List.getElem?_cons_zero]; rfl
        go_simp
        refine hKq.out _ _ ?_
        clear hKq Kq
        (try simp only [Act.put, List.setIfInBounds_toArray, List.set_cons_zero, List.set_cons_succ])
        refine PX.wpAnyX_done (by kernel_rfl) ?_ _
        refine NoPanic.normal ?_
        go_wp2_with fail
        go_roundw
        case rel =>
          exact ⟨k + 1, _, K6, by have := Hlt.out; omega, by go_num, grownBy_setCell (grownBy_other (grownBy_alloc (grownBy_below (grownBy_drew GB2.out) B5.out) _) g6'.out (fun b e => (GR2.out.lt _ e).1)) 1 _, hb6.out.set 1 _,
            G6'.out.setCell ⟨w2.heap.size, 1, none⟩ HW8.out _, HN6.out, HLL6.out⟩
        case measure => have := Hlt.out; simp [intOf]; omega
    · obtain rfl : k = n' := by omega
      have CR := Lib.hid (Cross.later PA8.out.bl GR2.out)
      have GRf : Hid (Grow w1.heap.size wr (.slice (some ⟨gv, 0, none⟩) y1 u1) H8) := PA8.out.bl.other GB2.out (fun k e e2 => AV7.out.b (by rw [e, e2])) (fun z hz x hx hl e => AV7.out.h z hz x hx hl (by injection e with e; exact e.symm))
      obtain ⟨va', vc', rfl, rv'⟩ := GR2.out.rws
      obtain ⟨t0, t1, t2⟩ := B32.out.three
      have hlg : w2.heap.size < wr.heap.size := B32.out.lt
      clear rv'
      have hx2 : Bx wr (w.heap.size + 1) [.slice none 0 0, .slice none 0 0, .bool false] := BR8.out.grown GB2.out (by intro e; injection e with e; have h1 := HW01.out; have h2 := HW12.out; omega)
      obtain ⟨q0, q1, q2⟩ := hx2.three
      have f0 := hx2.frozen 0
      have f1 := hx2.frozen 1
      have f2 := hx2.frozen 2
      clear hx2
      have K2B := Lib.hid kb2.out
      have fin : Hid (∀ u0' u1' u2', OwnDev w.heap.size (((wr.setCell ⟨w.heap.size + 1, 0, none⟩ u0').setCell ⟨w.heap.size + 1, 1, none⟩ u1').setCell ⟨w.heap.size + 1, 2, none⟩ u2') (.agg #[.slice (some ⟨gv, 0, none⟩) y1 u1, .slice va' K'.length vc', .bool dd]) (rsure D (m : Int) l) ∧ Below w.heap.size w (((wr.setCell ⟨w.heap.size + 1, 0, none⟩ u0').setCell ⟨w.heap.size + 1, 1, none⟩ u1').setCell ⟨w.heap.size + 1, 2, none⟩ u2')) := fun u0' u1' u2' => by
        have hg : w.heap.size + 1 < w1.heap.size := HW01.out
        have hg2 : w.heap.size + 1 < W8.heap.size := BR8.out.lt
        refine ⟨?_, ((K2B.out.setCell (p := ⟨w.heap.size + 1, 0, none⟩) (by show w.heap.size ≤ w.heap.size + 1; omega) _).setCell (p := ⟨w.heap.size + 1, 1, none⟩) (by show w.heap.size ≤ w.heap.size + 1; omega) _).setCell (p := ⟨w.heap.size + 1, 2, none⟩) (by show w.heap.size ≤ w.heap.size + 1; omega) _⟩
        rw [HD.out]
        exact ⟨_, _, H8, K', rfl, (((GRf.out.setCell ⟨w.heap.size + 1, 0, none⟩ hg u0').setCell ⟨w.heap.size + 1, 1, none⟩ hg u1').setCell ⟨w.heap.size + 1, 2, none⟩ hg u2').mono (by omega),
          (((GR2.out.setCell ⟨w.heap.size + 1, 0, none⟩ hg2 u0').setCell ⟨w.heap.size + 1, 1, none⟩ hg2 u1').setCell ⟨w.heap.size + 1, 2, none⟩ hg2 u2').mono (by omega), HL8.out, by rw [HL2.out, List.take_of_length_le (by rw [← Hn.out.2]; exact Nat.le_refl _)]; rfl, CR.out⟩
      generalize K'.length = q' at *
      go_wp2_with fail
      exact bodyPost_ret (v := .agg #[.slice (some ⟨gv, 0, none⟩) y1 u1, .slice va' q' vc', .bool dd]) (by simp [results, Try.results86, go_sem, *]) rfl ⟨_, rfl, (fin.out _ _ _).1, (fin.out _ _ _).2⟩
end Go.Proofs.Ytnhfkfihlkbkfaa.PW

namespace Go.Proofs.Ytnhfkfihlkbkfaa.PW
open Go.RowKit
open DK (Dv)
set_option linter.unusedVariables false
set_option maxRecDepth 100000
set_option linter.unusedSimpArgs false

def rfuaD (D : Dv) (at_ : Int) (l : List Nat) : Dv := if DK.wcode D at_ l = 0 then rsure D at_ l else DK.Dv.nil

end Go.Proofs.Ytnhfkfihlkbkfaa.PW
