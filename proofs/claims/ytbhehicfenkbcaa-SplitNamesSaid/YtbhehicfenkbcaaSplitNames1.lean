/-
  The walk of a law of layer 8 (SplitNames), given what the program's calls answer.
-/
import Derived.Test.YtbhehicfenkbcaaSplitLaws
namespace Go.Proofs.Ytbhehicfenkbcaa.PW
open Go.RowKit
open SK (Cfg)
set_option linter.unusedVariables false
set_option linter.unusedSimpArgs false
set_option maxRecDepth 100000

set_option maxHeartbeats 4000000 in
theorem splitNames_walk (I : SplitIs) (w : World) : Calls Try.prog 3 #[] w fun e w' => e = .returned (.bool true) ∧ Below w.heap.size w w' := by
  have CF := Lib.hid four8_any
  have CA := Lib.hid (alive8_any I)
  have A4 : Hid (∀ w1 : World, Calls Try.prog 11 #[.int .u8 4, .int .i64 0, .int .i64 0] w1 (LitAsk w1 4 4 0 0)) := fun w1 => ask8_any 4 0 0 w1 (.inl rfl)
  have A2 : Hid (∀ w1 : World, Calls Try.prog 11 #[.int .u8 2, .int .i64 1, .int .i64 1] w1 (LitAsk w1 2 2 1 1)) := fun w1 => ask8_any 2 1 1 w1 (.inr (by omega))
  have A1 : Hid (∀ w1 : World, Calls Try.prog 11 #[.int .u8 1, .int .i64 0, .int .i64 2] w1 (LitAsk w1 1 1 0 2)) := fun w1 => ask8_any 1 0 2 w1 (.inl rfl)
  have A11 : Hid (∀ w1 : World, Calls Try.prog 11 #[.int .u8 1, .int .i64 0, .int .i64 1] w1 (LitAsk w1 1 1 0 1)) := fun w1 => ask8_any 1 0 1 w1 (.inl rfl)
  have A5 : Hid (∀ w1 : World, Calls Try.prog 11 #[.int .u8 5, .int .i64 0, .int .i64 1] w1 (LitAsk w1 5 5 0 1)) := fun w1 => ask8_any 5 0 1 w1 (.inl rfl)
  have A32 : Hid (∀ w1 : World, Calls Try.prog 11 #[.int .u8 1, .int .i64 3, .int .i64 2] w1 (LitAsk w1 1 1 3 2)) := fun w1 => ask8_any 1 3 2 w1 (.inl rfl)
  have A9 : Hid (∀ w1 : World, Calls Try.prog 11 #[.int .u8 1, .int .i64 0, .int .i64 9] w1 (LitAsk w1 1 1 0 9)) := fun w1 => ask8_any 1 0 9 w1 (.inl rfl)
  have A7 : Hid (∀ w1 : World, Calls Try.prog 11 #[.int .u8 7, .int .i64 0, .int .i64 1] w1 (LitAsk w1 7 7 0 1)) := fun w1 => ask8_any 7 0 1 w1 (.inl rfl)
  have K1 : Hid (∀ (da : Option Addr) (dn dc : Nat) (w1 : World), (dn : Int) = QK.need 1 2 → Calls Try.prog 13 #[.agg #[.int .u32 0, .int .i64 3, .int .i64 1, .int .i64 2, .int .i64 12, .int .i64 2], .agg #[.int .u8 1, .int .i64 3, .int .i64 2, .slice da dn dc]] w1 fun e w' => e = .returned (.int .i64 2) ∧ Below w1.heap.size w1 w') := fun da dn dc w1 hn => by
    have := I.check 0 3 1 2 12 2 1 3 2 da dn dc w1
    rw [show QK.code ⟨0, 3, 1, 2, 12, 2⟩ 1 3 2 dn = 2 by rw [QK.code_of hn]; decide +kernel] at this
    exact this
  have K2 : Hid (∀ (da : Option Addr) (dn dc : Nat) (w1 : World), (dn : Int) = QK.need 1 9 → Calls Try.prog 13 #[.agg #[.int .u32 0, .int .i64 3, .int .i64 1, .int .i64 2, .int .i64 12, .int .i64 2], .agg #[.int .u8 1, .int .i64 0, .int .i64 9, .slice da dn dc]] w1 fun e w' => e = .returned (.int .i64 2) ∧ Below w1.heap.size w1 w') := fun da dn dc w1 hn => by
    have := I.check 0 3 1 2 12 2 1 0 9 da dn dc w1
    rw [show QK.code ⟨0, 3, 1, 2, 12, 2⟩ 1 0 9 dn = 2 by rw [QK.code_of hn]; decide +kernel] at this
    exact this
  have K4 : Hid (∀ (da : Option Addr) (dn dc : Nat) (w1 : World), (dn : Int) = QK.need 7 1 → Calls Try.prog 13 #[.agg #[.int .u32 0, .int .i64 3, .int .i64 1, .int .i64 2, .int .i64 12, .int .i64 2], .agg #[.int .u8 7, .int .i64 0, .int .i64 1, .slice da dn dc]] w1 fun e w' => e = .returned (.int .i64 2) ∧ Below w1.heap.size w1 w') := fun da dn dc w1 hn => by
    have := I.check 0 3 1 2 12 2 7 0 1 da dn dc w1
    rw [show QK.code ⟨0, 3, 1, 2, 12, 2⟩ 7 0 1 dn = 2 by rw [QK.code_of hn]; decide +kernel] at this
    exact this
  have K5 : Hid (∀ (da : Option Addr) (dn dc : Nat) (w1 : World), (dn : Int) = QK.need 1 1 → Calls Try.prog 13 #[.agg #[.int .u32 0, .int .i64 0, .int .i64 0, .int .i64 0, .int .i64 0, .int .i64 0], .agg #[.int .u8 1, .int .i64 0, .int .i64 1, .slice da dn dc]] w1 fun e w' => e = .returned (.int .i64 8) ∧ Below w1.heap.size w1 w') := fun da dn dc w1 hn => by
    have := I.check 0 0 0 0 0 0 1 0 1 da dn dc w1
    rw [show QK.code ⟨0, 0, 0, 0, 0, 0⟩ 1 0 1 dn = 8 by rw [QK.code_of hn]; decide +kernel] at this
    exact this
  have K3 : Hid (∀ w1 : World, Calls Try.prog 13 #[.agg #[.int .u32 0, .int .i64 3, .int .i64 1, .int .i64 2, .int .i64 12, .int .i64 2], .agg #[.int .u8 2, .int .i64 0, .int .i64 1, .slice none 0 0]] w1 fun e w' => e = .returned (.int .i64 3) ∧ Below w1.heap.size w1 w') := fun w1 => I.check 0 3 1 2 12 2 2 0 1 none 0 0 w1
  have KB : Hid (∀ (da : Option Addr) (dn dc : Nat) (w1 : World), (dn : Int) = QK.need 4 0 → Calls Try.prog 10 #[.agg #[.int .u32 0, .int .i64 3, .int .i64 1, .int .i64 2, .int .i64 12, .int .i64 2], .agg #[.int .u8 4, .int .i64 0, .int .i64 0, .slice da dn dc]] w1 (NewInts w1 [] 0)) := fun da dn dc w1 hn => by
    have := I.blocks 0 3 1 2 12 2 4 0 0 da dn dc w1
    have hq : QK.code ⟨0, 3, 1, 2, 12, 2⟩ 4 0 0 dn = 0 := by rw [QK.code_of hn]; decide +kernel
    rw [if_pos hq, hq] at this
    exact this
  have T1 : Hid (∀ (da : Option Addr) (dn dc : Nat) (da' : Option Addr) (dn' dc' : Nat) (w1 : World), (dn : Int) = QK.need 2 1 → (dn' : Int) = QK.need 1 2 → Calls Try.prog 12 #[.agg #[.int .u32 0, .int .i64 3, .int .i64 1, .int .i64 2, .int .i64 12, .int .i64 2], .agg #[.int .u8 2, .int .i64 1, .int .i64 1, .slice da dn dc], .agg #[.int .u8 1, .int .i64 0, .int .i64 2, .slice da' dn' dc']] w1 fun e w' => e = .returned (.tuple #[.bool true, .int .i64 0]) ∧ Below w1.heap.size w1 w') := fun da dn dc da' dn' dc' w1 hn hn' => by
    have := I.touch 0 3 1 2 12 2 2 1 1 da dn dc 1 0 2 da' dn' dc' w1
    have ht : QK.tcode ⟨0, 3, 1, 2, 12, 2⟩ 2 1 1 dn 1 0 2 dn' = 0 := by unfold QK.tcode; rw [QK.code_of hn, QK.code_of hn']; decide +kernel
    rw [if_pos ht, ht] at this
    exact this
  have T2 : Hid (∀ (da : Option Addr) (dn dc : Nat) (da' : Option Addr) (dn' dc' : Nat) (w1 : World), (dn : Int) = QK.need 1 1 → (dn' : Int) = QK.need 1 1 → Calls Try.prog 12 #[.agg #[.int .u32 0, .int .i64 3, .int .i64 1, .int .i64 2, .int .i64 12, .int .i64 2], .agg #[.int .u8 1, .int .i64 0, .int .i64 1, .slice da dn dc], .agg #[.int .u8 1, .int .i64 0, .int .i64 1, .slice da' dn' dc']] w1 fun e w' => e = .returned (.tuple #[.bool false, .int .i64 0]) ∧ Below w1.heap.size w1 w') := fun da dn dc da' dn' dc' w1 hn hn' => by
    have := I.touch 0 3 1 2 12 2 1 0 1 da dn dc 1 0 1 da' dn' dc' w1
    have ht : QK.tcode ⟨0, 3, 1, 2, 12, 2⟩ 1 0 1 dn 1 0 1 dn' = 0 := by unfold QK.tcode; rw [QK.code_of hn, QK.code_of hn']; decide +kernel
    rw [if_pos ht, ht] at this
    exact this
  have T3 : Hid (∀ (da : Option Addr) (dn dc : Nat) (da' : Option Addr) (dn' dc' : Nat) (w1 : World), (dn : Int) = QK.need 5 1 → (dn' : Int) = QK.need 5 1 → Calls Try.prog 12 #[.agg #[.int .u32 0, .int .i64 3, .int .i64 1, .int .i64 2, .int .i64 12, .int .i64 2], .agg #[.int .u8 5, .int .i64 0, .int .i64 1, .slice da dn dc], .agg #[.int .u8 5, .int .i64 0, .int .i64 1, .slice da' dn' dc']] w1 fun e w' => e = .returned (.tuple #[.bool true, .int .i64 0]) ∧ Below w1.heap.size w1 w') := fun da dn dc da' dn' dc' w1 hn hn' => by
    have := I.touch 0 3 1 2 12 2 5 0 1 da dn dc 5 0 1 da' dn' dc' w1
    have ht : QK.tcode ⟨0, 3, 1, 2, 12, 2⟩ 5 0 1 dn 5 0 1 dn' = 0 := by unfold QK.tcode; rw [QK.code_of hn, QK.code_of hn']; decide +kernel
    rw [if_pos ht, ht] at this
    exact this
  go_enter Try.func3, Try.ntmps3
  go_wp2_with fail
  refine (CF.out _).mono ?_
  rintro e w1 ⟨rfl, b1⟩
  have ha1 : Below w1.heap.size w1 (w1.alloc (.cells #[.int .u32 0, .int .i64 3, .int .i64 1, .int .i64 2, .int .i64 12, .int .i64 2] 24)) := (Below.refl _ _).alloc (Nat.le_refl _) _
  have B1 := Lib.hid (thence b1 ha1 (Nat.le_refl _))
  have BX : Hid (Bx (w1.alloc (.cells #[.int .u32 0, .int .i64 3, .int .i64 1, .int .i64 2, .int .i64 12, .int .i64 2] 24)) w1.heap.size [.int .u32 0, .int .i64 3, .int .i64 1, .int .i64 2, .int .i64 12, .int .i64 2]) := Bx.new w1 [.int .u32 0, .int .i64 3, .int .i64 1, .int .i64 2, .int .i64 12, .int .i64 2] 24
  clear b1 ha1
  go_wp2_with fail
  generalize w1.alloc (.cells #[.int .u32 0, .int .i64 3, .int .i64 1, .int .i64 2, .int .i64 12, .int .i64 2] 24) = W1 at *
  generalize w1.heap.size = g at *
  obtain ⟨c0, c1, c2, c3, c4, c5⟩ := BX.out.six
  have ltBX := BX.out.lt
  refine wp_region_noPanic ?_
  refine PX.wp_region_y (fun w' => Below W1.heap.size W1 w') [] (by kernel_rfl) (Below.refl _ _).drew (fun hHeld => ?_)
  refine PX.wpAnyY_take (i := 0) (oi := ?_) (v := ?_) ?_ (by kernel_rfl) (by kernel_rfl) (by kernel_rfl) (by kernel_rfl) (by kernel_rfl) (fun _ _ _ h => h) (Or.inl ⟨?_, ?_⟩) (by assumption) ?_
  rotate_left 2
  · simp only [List.getElem?_toArray, List.getElem?_cons_succ, List.getElem?_cons_zero]; rfl
  · rfl
  · intro w hSw; (try dsimp only at hSw); have hC := fun (b o : Nat) (h : b < W1.heap.size) => Below.cell hSw (p := ⟨b, o, none⟩) h; go_simp <;> with_reducible rfl
  (try simp only [Act.put, List.setIfInBounds_toArray, List.set_cons_zero, List.set_cons_succ])
  refine PX.wpAnyY_one (i := 1) (o := ?_) (by kernel_rfl) ?_ (fun Kq hKq => ?_)
  rotate_left
  · simp only [List.getElem?_toArray, List.getElem?_cons_succ, List.getElem?_cons_zero]; rfl
  go_simp
  (with_reducible refine (A4.out _).mono ?_)
  rintro e u1 ⟨da1, dn1, dc1, rfl, hn1, bqu1⟩
  have Hu1 := Lib.hid (thence hHeld bqu1 (Nat.le_refl _))
  have HN1 := Lib.hid hn1
  clear hn1
  clear bqu1
  go_wp2_with fail
  refine hKq.out _ _ (Hu1.out) (fun hHeld => ?_)
  clear hKq Kq
  (try simp only [Act.put, List.setIfInBounds_toArray, List.set_cons_zero, List.set_cons_succ])
  refine PX.wpAnyY_one (i := 2) (o := ?_) (by kernel_rfl) ?_ (fun Kq hKq => ?_)
  rotate_left
  · simp only [List.getElem?_toArray, List.getElem?_cons_succ, List.getElem?_cons_zero]; rfl
  go_simp
  (with_reducible refine (KB.out _ _ _ _ HN1.out).mono ?_)
  rintro e u2 ⟨aa, na, ca, rfl, rga, bqu2⟩
  have Hu2 := Lib.hid (thence hHeld bqu2 (Nat.le_refl _))
  obtain rfl : na = 0 := rga.long
  clear rga
  clear bqu2
  go_wp2_with fail
  refine hKq.out _ _ (Hu2.out) (fun hHeld => ?_)
  clear hKq Kq
  (try simp only [Act.put, List.setIfInBounds_toArray, List.set_cons_zero, List.set_cons_succ])
  refine PX.wpAnyY_one (i := 3) (o := ?_) (by kernel_rfl) ?_ (fun Kq hKq => ?_)
  rotate_left
  · simp only [List.getElem?_toArray, List.getElem?_cons_succ, List.getElem?_cons_zero]; rfl
  go_simp
  refine hKq.out _ _ (hHeld) (fun hHeld => ?_)
  clear hKq Kq
  (try simp only [Act.put, List.setIfInBounds_toArray, List.set_cons_zero, List.set_cons_succ])
  refine PX.wpAnyY_take (i := 4) (oi := ?_) (v := ?_) ?_ (by kernel_rfl) (by kernel_rfl) (by kernel_rfl) (by kernel_rfl) (by kernel_rfl) (fun _ _ _ h => h) (Or.inl ⟨?_, ?_⟩) (by assumption) ?_
  rotate_left 2
  · simp only [List.getElem?_toArray, List.getElem?_cons_succ, List.getElem?_cons_zero]; rfl
  · rfl
  · intro w hSw; (try dsimp only at hSw); go_simp <;> with_reducible rfl
  (try simp only [Act.put, List.setIfInBounds_toArray, List.set_cons_zero, List.set_cons_succ])
  refine PX.wpAnyY_take (i := 5) (oi := ?_) (v := ?_) ?_ (by kernel_rfl) (by kernel_rfl) (by kernel_rfl) (by kernel_rfl) (by kernel_rfl) (fun _ _ _ h => h) (Or.inl ⟨?_, ?_⟩) (by assumption) ?_
  rotate_left 2
  · simp only [List.getElem?_toArray, List.getElem?_cons_succ, List.getElem?_cons_zero]; rfl
  · rfl
  · intro w hSw; (try dsimp only at hSw); go_simp <;> with_reducible rfl
  (try simp only [Act.put, List.setIfInBounds_toArray, List.set_cons_zero, List.set_cons_succ])
  refine PX.wpAnyY_one (i := 6) (o := ?_) (by kernel_rfl) ?_ (fun Kq hKq => ?_)
  rotate_left
  · simp only [List.getElem?_toArray, List.getElem?_cons_succ, List.getElem?_cons_zero]; rfl
  go_simp
  refine hKq.out _ _ (hHeld) (fun hHeld => ?_)
  clear hKq Kq
  (try simp only [Act.put, List.setIfInBounds_toArray, List.set_cons_zero, List.set_cons_succ])
  refine PX.wpAnyY_one (i := 7) (o := ?_) (by kernel_rfl) ?_ (fun Kq hKq => ?_)
  rotate_left
  · simp only [List.getElem?_toArray, List.getElem?_cons_succ, List.getElem?_cons_zero]; rfl
  go_simp
  refine hKq.out _ _ (hHeld) (fun hHeld => ?_)
  clear hKq Kq
  (try simp only [Act.put, List.setIfInBounds_toArray, List.set_cons_zero, List.set_cons_succ])
  refine PX.wpAnyY_done (by kernel_rfl) ?_ _
  refine NoPanic.normal ?_
  have B2 := Lib.hid (thence B1.out Hu2.out (Nat.le_refl _))
  replace BX := Lib.hid (BX.out.here Hu2.out)
  clear c0 c1 c2 c3 c4 c5 ltBX hHeld
  go_wp2_with fail
  obtain ⟨c0, c1, c2, c3, c4, c5⟩ := BX.out.six
  have ltBX := BX.out.lt
  refine wp_region_noPanic ?_
  refine PX.wp_region_y (fun w' => Below u2.heap.size u2 w') [] (by kernel_rfl) (Below.refl _ _).drew (fun hHeld => ?_)
  refine PX.wpAnyY_take (i := 0) (oi := ?_) (v := ?_) ?_ (by kernel_rfl) (by kernel_rfl) (by kernel_rfl) (by kernel_rfl) (by kernel_rfl) (fun _ _ _ h => h) (Or.inl ⟨?_, ?_⟩) (by assumption) ?_
  rotate_left 2
  · simp only [List.getElem?_toArray, List.getElem?_cons_succ, List.getElem?_cons_zero]; rfl
  · rfl
  · intro w hSw; (try dsimp only at hSw); have hC := fun (b o : Nat) (h : b < u2.heap.size) => Below.cell hSw (p := ⟨b, o, none⟩) h; go_simp <;> with_reducible rfl
  (try simp only [Act.put, List.setIfInBounds_toArray, List.set_cons_zero, List.set_cons_succ])
  refine PX.wpAnyY_one (i := 1) (o := ?_) (by kernel_rfl) ?_ (fun Kq hKq => ?_)
  rotate_left
  · simp only [List.getElem?_toArray, List.getElem?_cons_succ, List.getElem?_cons_zero]; rfl
  go_simp
  (with_reducible refine (A2.out _).mono ?_)
  rintro e u3 ⟨da2, dn2, dc2, rfl, hn2, bqu3⟩
  have Hu3 := Lib.hid (thence hHeld bqu3 (Nat.le_refl _))
  have HN2 := Lib.hid hn2
  clear hn2
  clear bqu3
  go_wp2_with fail
  refine hKq.out _ _ (Hu3.out) (fun hHeld => ?_)
  clear hKq Kq
  (try simp only [Act.put, List.setIfInBounds_toArray, List.set_cons_zero, List.set_cons_succ])
  refine PX.wpAnyY_one (i := 2) (o := ?_) (by kernel_rfl) ?_ (fun Kq hKq => ?_)
  rotate_left
  · simp only [List.getElem?_toArray, List.getElem?_cons_succ, List.getElem?_cons_zero]; rfl
  go_simp
  (with_reducible refine (A1.out _).mono ?_)
  rintro e u4 ⟨da3, dn3, dc3, rfl, hn3, bqu4⟩
  have Hu4 := Lib.hid (thence hHeld bqu4 (Nat.le_refl _))
  have HN3 := Lib.hid hn3
  clear hn3
  clear bqu4
  go_wp2_with fail
  refine hKq.out _ _ (Hu4.out) (fun hHeld => ?_)
  clear hKq Kq
  (try simp only [Act.put, List.setIfInBounds_toArray, List.set_cons_zero, List.set_cons_succ])
  refine PX.wpAnyY_one (i := 3) (o := ?_) (by kernel_rfl) ?_ (fun Kq hKq => ?_)
  rotate_left
  · simp only [List.getElem?_toArray, List.getElem?_cons_succ, List.getElem?_cons_zero]; rfl
  go_simp
  (with_reducible refine (T1.out _ _ _ _ _ _ _ HN2.out HN3.out).mono ?_)
  rintro e u5 ⟨rfl, bqu5⟩
  have Hu5 := Lib.hid (thence hHeld bqu5 (Nat.le_refl _))
  clear bqu5
  go_wp2_with fail
  refine hKq.out _ _ (Hu5.out) (fun hHeld => ?_)
  clear hKq Kq
  (try simp only [Act.put, List.setIfInBounds_toArray, List.set_cons_zero, List.set_cons_succ])
  refine PX.wpAnyY_one (i := 4) (o := ?_) (by kernel_rfl) ?_ (fun Kq hKq => ?_)
  rotate_left
  · simp only [List.getElem?_toArray, List.getElem?_cons_succ, List.getElem?_cons_zero]; rfl
  go_simp
  refine hKq.out _ _ (hHeld) (fun hHeld => ?_)
  clear hKq Kq
  (try simp only [Act.put, List.setIfInBounds_toArray, List.set_cons_zero, List.set_cons_succ])
  refine PX.wpAnyY_take (i := 5) (oi := ?_) (v := ?_) ?_ (by kernel_rfl) (by kernel_rfl) (by kernel_rfl) (by kernel_rfl) (by kernel_rfl) (fun _ _ _ h => h) (Or.inl ⟨?_, ?_⟩) (by assumption) ?_
  rotate_left 2
  · simp only [List.getElem?_toArray, List.getElem?_cons_succ, List.getElem?_cons_zero]; rfl
  · rfl
  · intro w hSw; (try dsimp only at hSw); go_simp <;> with_reducible rfl
  (try simp only [Act.put, List.setIfInBounds_toArray, List.set_cons_zero, List.set_cons_succ])
  refine PX.wpAnyY_take (i := 6) (oi := ?_) (v := ?_) ?_ (by kernel_rfl) (by kernel_rfl) (by kernel_rfl) (by kernel_rfl) (by kernel_rfl) (fun _ _ _ h => h) (Or.inl ⟨?_, ?_⟩) (by assumption) ?_
  rotate_left 2
  · simp only [List.getElem?_toArray, List.getElem?_cons_succ, List.getElem?_cons_zero]; rfl
  · rfl
  · intro w hSw; (try dsimp only at hSw); go_simp <;> with_reducible rfl
  (try simp only [Act.put, List.setIfInBounds_toArray, List.set_cons_zero, List.set_cons_succ])
  refine PX.wpAnyY_one (i := 7) (o := ?_) (by kernel_rfl) ?_ (fun Kq hKq => ?_)
  rotate_left
  · simp only [List.getElem?_toArray, List.getElem?_cons_succ, List.getElem?_cons_zero]; rfl
  go_simp
  refine hKq.out _ _ (hHeld) (fun hHeld => ?_)
  clear hKq Kq
  (try simp only [Act.put, List.setIfInBounds_toArray, List.set_cons_zero, List.set_cons_succ])
  refine PX.wpAnyY_one (i := 8) (o := ?_) (by kernel_rfl) ?_ (fun Kq hKq => ?_)
  rotate_left
  · simp only [List.getElem?_toArray, List.getElem?_cons_succ, List.getElem?_cons_zero]; rfl
  go_simp
  refine hKq.out _ _ (hHeld) (fun hHeld => ?_)
  clear hKq Kq
  (try simp only [Act.put, List.setIfInBounds_toArray, List.set_cons_zero, List.set_cons_succ])
  refine PX.wpAnyY_done (by kernel_rfl) ?_ _
  refine NoPanic.normal ?_
  have B3 := Lib.hid (thence B2.out Hu5.out (Nat.le_refl _))
  replace BX := Lib.hid (BX.out.here Hu5.out)
  clear c0 c1 c2 c3 c4 c5 ltBX hHeld
  go_wp2_with fail
  obtain ⟨c0, c1, c2, c3, c4, c5⟩ := BX.out.six
  have ltBX := BX.out.lt
  refine wp_region_noPanic ?_
  refine PX.wp_region_y (fun w' => Below u5.heap.size u5 w') [] (by kernel_rfl) (Below.refl _ _).drew (fun hHeld => ?_)
  refine PX.wpAnyY_take (i := 0) (oi := ?_) (v := ?_) ?_ (by kernel_rfl) (by kernel_rfl) (by kernel_rfl) (by kernel_rfl) (by kernel_rfl) (fun _ _ _ h => h) (Or.inl ⟨?_, ?_⟩) (by assumption) ?_
  rotate_left 2
  · simp only [List.getElem?_toArray, List.getElem?_cons_succ, List.getElem?_cons_zero]; rfl
  · rfl
  · intro w hSw; (try dsimp only at hSw); have hC := fun (b o : Nat) (h : b < u5.heap.size) => Below.cell hSw (p := ⟨b, o, none⟩) h; go_simp <;> with_reducible rfl
  (try simp only [Act.put, List.setIfInBounds_toArray, List.set_cons_zero, List.set_cons_succ])
  refine PX.wpAnyY_one (i := 1) (o := ?_) (by kernel_rfl) ?_ (fun Kq hKq => ?_)
  rotate_left
  · simp only [List.getElem?_toArray, List.getElem?_cons_succ, List.getElem?_cons_zero]; rfl
  go_simp
  (with_reducible refine (A11.out _).mono ?_)
  rintro e u6 ⟨da4, dn4, dc4, rfl, hn4, bqu6⟩
  have Hu6 := Lib.hid (thence hHeld bqu6 (Nat.le_refl _))
  have HN4 := Lib.hid hn4
  clear hn4
  clear bqu6
  go_wp2_with fail
  refine hKq.out _ _ (Hu6.out) (fun hHeld => ?_)
  clear hKq Kq
  (try simp only [Act.put, List.setIfInBounds_toArray, List.set_cons_zero, List.set_cons_succ])
  refine PX.wpAnyY_one (i := 2) (o := ?_) (by kernel_rfl) ?_ (fun Kq hKq => ?_)
  rotate_left
  · simp only [List.getElem?_toArray, List.getElem?_cons_succ, List.getElem?_cons_zero]; rfl
  go_simp
  (with_reducible refine (A11.out _).mono ?_)
  rintro e u7 ⟨da5, dn5, dc5, rfl, hn5, bqu7⟩
  have Hu7 := Lib.hid (thence hHeld bqu7 (Nat.le_refl _))
  have HN5 := Lib.hid hn5
  clear hn5
  clear bqu7
  go_wp2_with fail
  refine hKq.out _ _ (Hu7.out) (fun hHeld => ?_)
  clear hKq Kq
  (try simp only [Act.put, List.setIfInBounds_toArray, List.set_cons_zero, List.set_cons_succ])
  refine PX.wpAnyY_one (i := 3) (o := ?_) (by kernel_rfl) ?_ (fun Kq hKq => ?_)
  rotate_left
  · simp only [List.getElem?_toArray, List.getElem?_cons_succ, List.getElem?_cons_zero]; rfl
  go_simp
  (with_reducible refine (T2.out _ _ _ _ _ _ _ HN4.out HN5.out).mono ?_)
  rintro e u8 ⟨rfl, bqu8⟩
  have Hu8 := Lib.hid (thence hHeld bqu8 (Nat.le_refl _))
  clear bqu8
  go_wp2_with fail
  refine hKq.out _ _ (Hu8.out) (fun hHeld => ?_)
  clear hKq Kq
  (try simp only [Act.put, List.setIfInBounds_toArray, List.set_cons_zero, List.set_cons_succ])
  refine PX.wpAnyY_one (i := 4) (o := ?_) (by kernel_rfl) ?_ (fun Kq hKq => ?_)
  rotate_left
  · simp only [List.getElem?_toArray, List.getElem?_cons_succ, List.getElem?_cons_zero]; rfl
  go_simp
  refine hKq.out _ _ (hHeld) (fun hHeld => ?_)
  clear hKq Kq
  (try simp only [Act.put, List.setIfInBounds_toArray, List.set_cons_zero, List.set_cons_succ])
  refine PX.wpAnyY_take (i := 5) (oi := ?_) (v := ?_) ?_ (by kernel_rfl) (by kernel_rfl) (by kernel_rfl) (by kernel_rfl) (by kernel_rfl) (fun _ _ _ h => h) (Or.inl ⟨?_, ?_⟩) (by assumption) ?_
  rotate_left 2
  · simp only [List.getElem?_toArray, List.getElem?_cons_succ, List.getElem?_cons_zero]; rfl
  · rfl
  · intro w hSw; (try dsimp only at hSw); go_simp <;> with_reducible rfl
  (try simp only [Act.put, List.setIfInBounds_toArray, List.set_cons_zero, List.set_cons_succ])
  refine PX.wpAnyY_take (i := 6) (oi := ?_) (v := ?_) ?_ (by kernel_rfl) (by kernel_rfl) (by kernel_rfl) (by kernel_rfl) (by kernel_rfl) (fun _ _ _ h => h) (Or.inl ⟨?_, ?_⟩) (by assumption) ?_
  rotate_left 2
  · simp only [List.getElem?_toArray, List.getElem?_cons_succ, List.getElem?_cons_zero]; rfl
  · rfl
  · intro w hSw; (try dsimp only at hSw); go_simp <;> with_reducible rfl
  (try simp only [Act.put, List.setIfInBounds_toArray, List.set_cons_zero, List.set_cons_succ])
  refine PX.wpAnyY_one (i := 7) (o := ?_) (by kernel_rfl) ?_ (fun Kq hKq => ?_)
  rotate_left
  · simp only [List.getElem?_toArray, List.getElem?_cons_succ, List.getElem?_cons_zero]; rfl
  go_simp
  refine hKq.out _ _ (hHeld) (fun hHeld => ?_)
  clear hKq Kq
  (try simp only [Act.put, List.setIfInBounds_toArray, List.set_cons_zero, List.set_cons_succ])
  refine PX.wpAnyY_one (i := 8) (o := ?_) (by kernel_rfl) ?_ (fun Kq hKq => ?_)
  rotate_left
  · simp only [List.getElem?_toArray, List.getElem?_cons_succ, List.getElem?_cons_zero]; rfl
  go_simp
  refine hKq.out _ _ (hHeld) (fun hHeld => ?_)
  clear hKq Kq
  (try simp only [Act.put, List.setIfInBounds_toArray, List.set_cons_zero, List.set_cons_succ])
  refine PX.wpAnyY_done (by kernel_rfl) ?_ _
  refine NoPanic.normal ?_
  have B4 := Lib.hid (thence B3.out Hu8.out (Nat.le_refl _))
  replace BX := Lib.hid (BX.out.here Hu8.out)
  clear c0 c1 c2 c3 c4 c5 ltBX hHeld
  go_wp2_with fail
  obtain ⟨c0, c1, c2, c3, c4, c5⟩ := BX.out.six
  have ltBX := BX.out.lt
  refine wp_region_noPanic ?_
  refine PX.wp_region_y (fun w' => Below u8.heap.size u8 w') [] (by kernel_rfl) (Below.refl _ _).drew (fun hHeld => ?_)
  refine PX.wpAnyY_take (i := 0) (oi := ?_) (v := ?_) ?_ (by kernel_rfl) (by kernel_rfl) (by kernel_rfl) (by kernel_rfl) (by kernel_rfl) (fun _ _ _ h => h) (Or.inl ⟨?_, ?_⟩) (by assumption) ?_
  rotate_left 2
  · simp only [List.getElem?_toArray, List.getElem?_cons_succ, List.getElem?_cons_zero]; rfl
  · rfl
  · intro w hSw; (try dsimp only at hSw); have hC := fun (b o : Nat) (h : b < u8.heap.size) => Below.cell hSw (p := ⟨b, o, none⟩) h; go_simp <;> with_reducible rfl
  (try simp only [Act.put, List.setIfInBounds_toArray, List.set_cons_zero, List.set_cons_succ])
  refine PX.wpAnyY_one (i := 1) (o := ?_) (by kernel_rfl) ?_ (fun Kq hKq => ?_)
  rotate_left
  · simp only [List.getElem?_toArray, List.getElem?_cons_succ, List.getElem?_cons_zero]; rfl
  go_simp
  (with_reducible refine (A5.out _).mono ?_)
  rintro e u9 ⟨da6, dn6, dc6, rfl, hn6, bqu9⟩
  have Hu9 := Lib.hid (thence hHeld bqu9 (Nat.le_refl _))
  have HN6 := Lib.hid hn6
  clear hn6
  clear bqu9
  go_wp2_with fail
  refine hKq.out _ _ (Hu9.out) (fun hHeld => ?_)
  clear hKq Kq
  (try simp only [Act.put, List.setIfInBounds_toArray, List.set_cons_zero, List.set_cons_succ])
  refine PX.wpAnyY_one (i := 2) (o := ?_) (by kernel_rfl) ?_ (fun Kq hKq => ?_)
  rotate_left
  · simp only [List.getElem?_toArray, List.getElem?_cons_succ, List.getElem?_cons_zero]; rfl
  go_simp
  (with_reducible refine (A5.out _).mono ?_)
  rintro e v1 ⟨da7, dn7, dc7, rfl, hn7, bqv1⟩
  have Hv1 := Lib.hid (thence hHeld bqv1 (Nat.le_refl _))
  have HN7 := Lib.hid hn7
  clear hn7
  clear bqv1
  go_wp2_with fail
  refine hKq.out _ _ (Hv1.out) (fun hHeld => ?_)
  clear hKq Kq
  (try simp only [Act.put, List.setIfInBounds_toArray, List.set_cons_zero, List.set_cons_succ])
  refine PX.wpAnyY_one (i := 3) (o := ?_) (by kernel_rfl) ?_ (fun Kq hKq => ?_)
  rotate_left
  · simp only [List.getElem?_toArray, List.getElem?_cons_succ, List.getElem?_cons_zero]; rfl
  go_simp
  (with_reducible refine (T3.out _ _ _ _ _ _ _ HN6.out HN7.out).mono ?_)
  rintro e v2 ⟨rfl, bqv2⟩
  have Hv2 := Lib.hid (thence hHeld bqv2 (Nat.le_refl _))
  clear bqv2
  go_wp2_with fail
  refine hKq.out _ _ (Hv2.out) (fun hHeld => ?_)
  clear hKq Kq
  (try simp only [Act.put, List.setIfInBounds_toArray, List.set_cons_zero, List.set_cons_succ])
  refine PX.wpAnyY_one (i := 4) (o := ?_) (by kernel_rfl) ?_ (fun Kq hKq => ?_)
  rotate_left
  · simp only [List.getElem?_toArray, List.getElem?_cons_succ, List.getElem?_cons_zero]; rfl
  go_simp
  refine hKq.out _ _ (hHeld) (fun hHeld => ?_)
  clear hKq Kq
  (try simp only [Act.put, List.setIfInBounds_toArray, List.set_cons_zero, List.set_cons_succ])
  refine PX.wpAnyY_take (i := 5) (oi := ?_) (v := ?_) ?_ (by kernel_rfl) (by kernel_rfl) (by kernel_rfl) (by kernel_rfl) (by kernel_rfl) (fun _ _ _ h => h) (Or.inl ⟨?_, ?_⟩) (by assumption) ?_
  rotate_left 2
  · simp only [List.getElem?_toArray, List.getElem?_cons_succ, List.getElem?_cons_zero]; rfl
  · rfl
  · intro w hSw; (try dsimp only at hSw); go_simp <;> with_reducible rfl
  (try simp only [Act.put, List.setIfInBounds_toArray, List.set_cons_zero, List.set_cons_succ])
  refine PX.wpAnyY_take (i := 6) (oi := ?_) (v := ?_) ?_ (by kernel_rfl) (by kernel_rfl) (by kernel_rfl) (by kernel_rfl) (by kernel_rfl) (fun _ _ _ h => h) (Or.inl ⟨?_, ?_⟩) (by assumption) ?_
  rotate_left 2
  · simp only [List.getElem?_toArray, List.getElem?_cons_succ, List.getElem?_cons_zero]; rfl
  · rfl
  · intro w hSw; (try dsimp only at hSw); go_simp <;> with_reducible rfl
  (try simp only [Act.put, List.setIfInBounds_toArray, List.set_cons_zero, List.set_cons_succ])
  refine PX.wpAnyY_one (i := 7) (o := ?_) (by kernel_rfl) ?_ (fun Kq hKq => ?_)
  rotate_left
  · simp only [List.getElem?_toArray, List.getElem?_cons_succ, List.getElem?_cons_zero]; rfl
  go_simp
  refine hKq.out _ _ (hHeld) (fun hHeld => ?_)
  clear hKq Kq
  (try simp only [Act.put, List.setIfInBounds_toArray, List.set_cons_zero, List.set_cons_succ])
  refine PX.wpAnyY_one (i := 8) (o := ?_) (by kernel_rfl) ?_ (fun Kq hKq => ?_)
  rotate_left
  · simp only [List.getElem?_toArray, List.getElem?_cons_succ, List.getElem?_cons_zero]; rfl
  go_simp
  refine hKq.out _ _ (hHeld) (fun hHeld => ?_)
  clear hKq Kq
  (try simp only [Act.put, List.setIfInBounds_toArray, List.set_cons_zero, List.set_cons_succ])
  refine PX.wpAnyY_done (by kernel_rfl) ?_ _
  refine NoPanic.normal ?_
  have B5 := Lib.hid (thence B4.out Hv2.out (Nat.le_refl _))
  replace BX := Lib.hid (BX.out.here Hv2.out)
  clear c0 c1 c2 c3 c4 c5 ltBX hHeld
  go_wp2_with fail
  obtain ⟨c0, c1, c2, c3, c4, c5⟩ := BX.out.six
  have ltBX := BX.out.lt
  refine wp_region_noPanic ?_
  refine PX.wp_region_y (fun w' => Below v2.heap.size v2 w') [] (by kernel_rfl) (Below.refl _ _).drew (fun hHeld => ?_)
  refine PX.wpAnyY_take (i := 0) (oi := ?_) (v := ?_) ?_ (by kernel_rfl) (by kernel_rfl) (by kernel_rfl) (by kernel_rfl) (by kernel_rfl) (fun _ _ _ h => h) (Or.inl ⟨?_, ?_⟩) (by assumption) ?_
  rotate_left 2
  · simp only [List.getElem?_toArray, List.getElem?_cons_succ, List.getElem?_cons_zero]; rfl
  · rfl
  · intro w hSw; (try dsimp only at hSw); have hC := fun (b o : Nat) (h : b < v2.heap.size) => Below.cell hSw (p := ⟨b, o, none⟩) h; go_simp <;> with_reducible rfl
  (try simp only [Act.put, List.setIfInBounds_toArray, List.set_cons_zero, List.set_cons_succ])
  refine PX.wpAnyY_one (i := 1) (o := ?_) (by kernel_rfl) ?_ (fun Kq hKq => ?_)
  rotate_left
  · simp only [List.getElem?_toArray, List.getElem?_cons_succ, List.getElem?_cons_zero]; rfl
  go_simp
  (with_reducible refine (A32.out _).mono ?_)
  rintro e v3 ⟨da8, dn8, dc8, rfl, hn8, bqv3⟩
  have Hv3 := Lib.hid (thence hHeld bqv3 (Nat.le_refl _))
  have HN8 := Lib.hid hn8
  clear hn8
  clear bqv3
  go_wp2_with fail
  refine hKq.out _ _ (Hv3.out) (fun hHeld => ?_)
  clear hKq Kq
  (try simp only [Act.put, List.setIfInBounds_toArray, List.set_cons_zero, List.set_cons_succ])
  refine PX.wpAnyY_one (i := 2) (o := ?_) (by kernel_rfl) ?_ (fun Kq hKq => ?_)
  rotate_left
  · simp only [List.getElem?_toArray, List.getElem?_cons_succ, List.getElem?_cons_zero]; rfl
  go_simp
  (with_reducible refine (K1.out _ _ _ _ HN8.out).mono ?_)
  rintro e v4 ⟨rfl, bqv4⟩
  have Hv4 := Lib.hid (thence hHeld bqv4 (Nat.le_refl _))
  clear bqv4
  go_wp2_with fail
  refine hKq.out _ _ (Hv4.out) (fun hHeld => ?_)
  clear hKq Kq
  (try simp only [Act.put, List.setIfInBounds_toArray, List.set_cons_zero, List.set_cons_succ])
  refine PX.wpAnyY_one (i := 3) (o := ?_) (by kernel_rfl) ?_ (fun Kq hKq => ?_)
  rotate_left
  · simp only [List.getElem?_toArray, List.getElem?_cons_succ, List.getElem?_cons_zero]; rfl
  go_simp
  refine hKq.out _ _ (hHeld) (fun hHeld => ?_)
  clear hKq Kq
  (try simp only [Act.put, List.setIfInBounds_toArray, List.set_cons_zero, List.set_cons_succ])
  refine PX.wpAnyY_one (i := 4) (o := ?_) (by kernel_rfl) ?_ (fun Kq hKq => ?_)
  rotate_left
  · simp only [List.getElem?_toArray, List.getElem?_cons_succ, List.getElem?_cons_zero]; rfl
  go_simp
  refine hKq.out _ _ (hHeld) (fun hHeld => ?_)
  clear hKq Kq
  (try simp only [Act.put, List.setIfInBounds_toArray, List.set_cons_zero, List.set_cons_succ])
  refine PX.wpAnyY_take (i := 5) (oi := ?_) (v := ?_) ?_ (by kernel_rfl) (by kernel_rfl) (by kernel_rfl) (by kernel_rfl) (by kernel_rfl) (fun _ _ _ h => h) (Or.inl ⟨?_, ?_⟩) (by assumption) ?_
  rotate_left 2
  · simp only [List.getElem?_toArray, List.getElem?_cons_succ, List.getElem?_cons_zero]; rfl
  · rfl
  · intro w hSw; (try dsimp only at hSw); have hC := fun (b o : Nat) (h : b < v2.heap.size) => Below.cell hSw (p := ⟨b, o, none⟩) h; go_simp <;> with_reducible rfl
  (try simp only [Act.put, List.setIfInBounds_toArray, List.set_cons_zero, List.set_cons_succ])
  refine PX.wpAnyY_one (i := 6) (o := ?_) (by kernel_rfl) ?_ (fun Kq hKq => ?_)
  rotate_left
  · simp only [List.getElem?_toArray, List.getElem?_cons_succ, List.getElem?_cons_zero]; rfl
  go_simp
  (with_reducible refine (A9.out _).mono ?_)
  rintro e v5 ⟨da9, dn9, dc9, rfl, hn9, bqv5⟩
  have Hv5 := Lib.hid (thence hHeld bqv5 (Nat.le_refl _))
  have HN9 := Lib.hid hn9
  clear hn9
  clear bqv5
  go_wp2_with fail
  refine hKq.out _ _ (Hv5.out) (fun hHeld => ?_)
  clear hKq Kq
  (try simp only [Act.put, List.setIfInBounds_toArray, List.set_cons_zero, List.set_cons_succ])
  refine PX.wpAnyY_one (i := 7) (o := ?_) (by kernel_rfl) ?_ (fun Kq hKq => ?_)
  rotate_left
  · simp only [List.getElem?_toArray, List.getElem?_cons_succ, List.getElem?_cons_zero]; rfl
  go_simp
  (with_reducible refine (K2.out _ _ _ _ HN9.out).mono ?_)
  rintro e v6 ⟨rfl, bqv6⟩
  have Hv6 := Lib.hid (thence hHeld bqv6 (Nat.le_refl _))
  clear bqv6
  go_wp2_with fail
  refine hKq.out _ _ (Hv6.out) (fun hHeld => ?_)
  clear hKq Kq
  (try simp only [Act.put, List.setIfInBounds_toArray, List.set_cons_zero, List.set_cons_succ])
  refine PX.wpAnyY_one (i := 8) (o := ?_) (by kernel_rfl) ?_ (fun Kq hKq => ?_)
  rotate_left
  · simp only [List.getElem?_toArray, List.getElem?_cons_succ, List.getElem?_cons_zero]; rfl
  go_simp
  refine hKq.out _ _ (hHeld) (fun hHeld => ?_)
  clear hKq Kq
  (try simp only [Act.put, List.setIfInBounds_toArray, List.set_cons_zero, List.set_cons_succ])
  refine PX.wpAnyY_one (i := 9) (o := ?_) (by kernel_rfl) ?_ (fun Kq hKq => ?_)
  rotate_left
  · simp only [List.getElem?_toArray, List.getElem?_cons_succ, List.getElem?_cons_zero]; rfl
  go_simp
  refine hKq.out _ _ (hHeld) (fun hHeld => ?_)
  clear hKq Kq
  (try simp only [Act.put, List.setIfInBounds_toArray, List.set_cons_zero, List.set_cons_succ])
  refine PX.wpAnyY_one (i := 10) (o := ?_) (by kernel_rfl) ?_ (fun Kq hKq => ?_)
  rotate_left
  · simp only [List.getElem?_toArray, List.getElem?_cons_succ, List.getElem?_cons_zero]; rfl
  go_simp
  refine hKq.out _ _ (hHeld) (fun hHeld => ?_)
  clear hKq Kq
  (try simp only [Act.put, List.setIfInBounds_toArray, List.set_cons_zero, List.set_cons_succ])
  refine PX.wpAnyY_take (i := 11) (oi := ?_) (v := ?_) ?_ (by kernel_rfl) (by kernel_rfl) (by kernel_rfl) (by kernel_rfl) (by kernel_rfl) (fun _ _ _ h => h) (Or.inl ⟨?_, ?_⟩) (by assumption) ?_
  rotate_left 2
  · simp only [List.getElem?_toArray, List.getElem?_cons_succ, List.getElem?_cons_zero]; rfl
  · rfl
  · intro w hSw; (try dsimp only at hSw); have hC := fun (b o : Nat) (h : b < v2.heap.size) => Below.cell hSw (p := ⟨b, o, none⟩) h; go_simp <;> with_reducible rfl
  (try simp only [Act.put, List.setIfInBounds_toArray, List.set_cons_zero, List.set_cons_succ])
  refine PX.wpAnyY_one (i := 12) (o := ?_) (by kernel_rfl) ?_ (fun Kq hKq => ?_)
  rotate_left
  · simp only [List.getElem?_toArray, List.getElem?_cons_succ, List.getElem?_cons_zero]; rfl
  go_simp
  refine hKq.out _ _ (hHeld) (fun hHeld => ?_)
  clear hKq Kq
  (try simp only [Act.put, List.setIfInBounds_toArray, List.set_cons_zero, List.set_cons_succ])
  refine PX.wpAnyY_one (i := 13) (o := ?_) (by kernel_rfl) ?_ (fun Kq hKq => ?_)
  rotate_left
  · simp only [List.getElem?_toArray, List.getElem?_cons_succ, List.getElem?_cons_zero]; rfl
  go_simp
  (with_reducible refine (K3.out _).mono ?_)
  rintro e v7 ⟨rfl, bqv7⟩
  have Hv7 := Lib.hid (thence hHeld bqv7 (Nat.le_refl _))
  clear bqv7
  go_wp2_with fail
  refine hKq.out _ _ (Hv7.out) (fun hHeld => ?_)
  clear hKq Kq
  (try simp only [Act.put, List.setIfInBounds_toArray, List.set_cons_zero, List.set_cons_succ])
  refine PX.wpAnyY_one (i := 14) (o := ?_) (by kernel_rfl) ?_ (fun Kq hKq => ?_)
  rotate_left
  · simp only [List.getElem?_toArray, List.getElem?_cons_succ, List.getElem?_cons_zero]; rfl
  go_simp
  refine hKq.out _ _ (hHeld) (fun hHeld => ?_)
  clear hKq Kq
  (try simp only [Act.put, List.setIfInBounds_toArray, List.set_cons_zero, List.set_cons_succ])
  refine PX.wpAnyY_one (i := 15) (o := ?_) (by kernel_rfl) ?_ (fun Kq hKq => ?_)
  rotate_left
  · simp only [List.getElem?_toArray, List.getElem?_cons_succ, List.getElem?_cons_zero]; rfl
  go_simp
  refine hKq.out _ _ (hHeld) (fun hHeld => ?_)
  clear hKq Kq
  (try simp only [Act.put, List.setIfInBounds_toArray, List.set_cons_zero, List.set_cons_succ])
  refine PX.wpAnyY_one (i := 16) (o := ?_) (by kernel_rfl) ?_ (fun Kq hKq => ?_)
  rotate_left
  · simp only [List.getElem?_toArray, List.getElem?_cons_succ, List.getElem?_cons_zero]; rfl
  go_simp
  refine hKq.out _ _ (hHeld) (fun hHeld => ?_)
  clear hKq Kq
  (try simp only [Act.put, List.setIfInBounds_toArray, List.set_cons_zero, List.set_cons_succ])
  refine PX.wpAnyY_take (i := 17) (oi := ?_) (v := ?_) ?_ (by kernel_rfl) (by kernel_rfl) (by kernel_rfl) (by kernel_rfl) (by kernel_rfl) (fun _ _ _ h => h) (Or.inl ⟨?_, ?_⟩) (by assumption) ?_
  rotate_left 2
  · simp only [List.getElem?_toArray, List.getElem?_cons_succ, List.getElem?_cons_zero]; rfl
  · rfl
  · intro w hSw; (try dsimp only at hSw); have hC := fun (b o : Nat) (h : b < v2.heap.size) => Below.cell hSw (p := ⟨b, o, none⟩) h; go_simp <;> with_reducible rfl
  (try simp only [Act.put, List.setIfInBounds_toArray, List.set_cons_zero, List.set_cons_succ])
  refine PX.wpAnyY_one (i := 18) (o := ?_) (by kernel_rfl) ?_ (fun Kq hKq => ?_)
  rotate_left
  · simp only [List.getElem?_toArray, List.getElem?_cons_succ, List.getElem?_cons_zero]; rfl
  go_simp
  (with_reducible refine (A7.out _).mono ?_)
  rintro e v8 ⟨da10, dn10, dc10, rfl, hn10, bqv8⟩
  have Hv8 := Lib.hid (thence hHeld bqv8 (Nat.le_refl _))
  have HN10 := Lib.hid hn10
  clear hn10
  clear bqv8
  go_wp2_with fail
  refine hKq.out _ _ (Hv8.out) (fun hHeld => ?_)
  clear hKq Kq
  (try simp only [Act.put, List.setIfInBounds_toArray, List.set_cons_zero, List.set_cons_succ])
  refine PX.wpAnyY_one (i := 19) (o := ?_) (by kernel_rfl) ?_ (fun Kq hKq => ?_)
  rotate_left
  · simp only [List.getElem?_toArray, List.getElem?_cons_succ, List.getElem?_cons_zero]; rfl
  go_simp
  (with_reducible refine (K4.out _ _ _ _ HN10.out).mono ?_)
  rintro e v9 ⟨rfl, bqv9⟩
  have Hv9 := Lib.hid (thence hHeld bqv9 (Nat.le_refl _))
  clear bqv9
  go_wp2_with fail
  refine hKq.out _ _ (Hv9.out) (fun hHeld => ?_)
  clear hKq Kq
  (try simp only [Act.put, List.setIfInBounds_toArray, List.set_cons_zero, List.set_cons_succ])
  refine PX.wpAnyY_one (i := 20) (o := ?_) (by kernel_rfl) ?_ (fun Kq hKq => ?_)
  rotate_left
  · simp only [List.getElem?_toArray, List.getElem?_cons_succ, List.getElem?_cons_zero]; rfl
  go_simp
  refine hKq.out _ _ (hHeld) (fun hHeld => ?_)
  clear hKq Kq
  (try simp only [Act.put, List.setIfInBounds_toArray, List.set_cons_zero, List.set_cons_succ])
  refine PX.wpAnyY_one (i := 21) (o := ?_) (by kernel_rfl) ?_ (fun Kq hKq => ?_)
  rotate_left
  · simp only [List.getElem?_toArray, List.getElem?_cons_succ, List.getElem?_cons_zero]; rfl
  go_simp
  refine hKq.out _ _ (hHeld) (fun hHeld => ?_)
  clear hKq Kq
  (try simp only [Act.put, List.setIfInBounds_toArray, List.set_cons_zero, List.set_cons_succ])
  refine PX.wpAnyY_one (i := 22) (o := ?_) (by kernel_rfl) ?_ (fun Kq hKq => ?_)
  rotate_left
  · simp only [List.getElem?_toArray, List.getElem?_cons_succ, List.getElem?_cons_zero]; rfl
  go_simp
  refine hKq.out _ _ (hHeld) (fun hHeld => ?_)
  clear hKq Kq
  (try simp only [Act.put, List.setIfInBounds_toArray, List.set_cons_zero, List.set_cons_succ])
  refine PX.wpAnyY_take (i := 23) (oi := ?_) (v := ?_) ?_ (by kernel_rfl) (by kernel_rfl) (by kernel_rfl) (by kernel_rfl) (by kernel_rfl) (fun _ _ _ h => h) (Or.inl ⟨?_, ?_⟩) (by assumption) ?_
  rotate_left 2
  · simp only [List.getElem?_toArray, List.getElem?_cons_succ, List.getElem?_cons_zero]; rfl
  · rfl
  · intro w hSw; (try dsimp only at hSw); go_simp <;> with_reducible rfl
  (try simp only [Act.put, List.setIfInBounds_toArray, List.set_cons_zero, List.set_cons_succ])
  refine PX.wpAnyY_one (i := 24) (o := ?_) (by kernel_rfl) ?_ (fun Kq hKq => ?_)
  rotate_left
  · simp only [List.getElem?_toArray, List.getElem?_cons_succ, List.getElem?_cons_zero]; rfl
  go_simp
  (with_reducible refine (A11.out _).mono ?_)
  rintro e x1 ⟨da11, dn11, dc11, rfl, hn11, bqx1⟩
  have Hx1 := Lib.hid (thence hHeld bqx1 (Nat.le_refl _))
  have HN11 := Lib.hid hn11
  clear hn11
  clear bqx1
  go_wp2_with fail
  refine hKq.out _ _ (Hx1.out) (fun hHeld => ?_)
  clear hKq Kq
  (try simp only [Act.put, List.setIfInBounds_toArray, List.set_cons_zero, List.set_cons_succ])
  refine PX.wpAnyY_one (i := 25) (o := ?_) (by kernel_rfl) ?_ (fun Kq hKq => ?_)
  rotate_left
  · simp only [List.getElem?_toArray, List.getElem?_cons_succ, List.getElem?_cons_zero]; rfl
  go_simp
  (with_reducible refine (K5.out _ _ _ _ HN11.out).mono ?_)
  rintro e x2 ⟨rfl, bqx2⟩
  have Hx2 := Lib.hid (thence hHeld bqx2 (Nat.le_refl _))
  clear bqx2
  go_wp2_with fail
  refine hKq.out _ _ (Hx2.out) (fun hHeld => ?_)
  clear hKq Kq
  (try simp only [Act.put, List.setIfInBounds_toArray, List.set_cons_zero, List.set_cons_succ])
  refine PX.wpAnyY_one (i := 26) (o := ?_) (by kernel_rfl) ?_ (fun Kq hKq => ?_)
  rotate_left
  · simp only [List.getElem?_toArray, List.getElem?_cons_succ, List.getElem?_cons_zero]; rfl
  go_simp
  refine hKq.out _ _ (hHeld) (fun hHeld => ?_)
  clear hKq Kq
  (try simp only [Act.put, List.setIfInBounds_toArray, List.set_cons_zero, List.set_cons_succ])
  refine PX.wpAnyY_one (i := 27) (o := ?_) (by kernel_rfl) ?_ (fun Kq hKq => ?_)
  rotate_left
  · simp only [List.getElem?_toArray, List.getElem?_cons_succ, List.getElem?_cons_zero]; rfl
  go_simp
  refine hKq.out _ _ (hHeld) (fun hHeld => ?_)
  clear hKq Kq
  (try simp only [Act.put, List.setIfInBounds_toArray, List.set_cons_zero, List.set_cons_succ])
  refine PX.wpAnyY_one (i := 28) (o := ?_) (by kernel_rfl) ?_ (fun Kq hKq => ?_)
  rotate_left
  · simp only [List.getElem?_toArray, List.getElem?_cons_succ, List.getElem?_cons_zero]; rfl
  go_simp
  refine hKq.out _ _ (hHeld) (fun hHeld => ?_)
  clear hKq Kq
  (try simp only [Act.put, List.setIfInBounds_toArray, List.set_cons_zero, List.set_cons_succ])
  refine PX.wpAnyY_done (by kernel_rfl) ?_ _
  refine NoPanic.normal ?_
  have B6 := Lib.hid (thence B5.out Hx2.out (Nat.le_refl _))
  replace BX := Lib.hid (BX.out.here Hx2.out)
  clear c0 c1 c2 c3 c4 c5 ltBX hHeld
  go_wp2_with fail
  refine (CA.out _).mono ?_
  rintro e x3 ⟨rfl, b3⟩
  have BF := Lib.hid (thence B6.out b3 (Nat.le_refl _))
  clear b3
  go_wp2_with fail
  go_ret
  exact ⟨rfl, BF.out⟩
end Go.Proofs.Ytbhehicfenkbcaa.PW
