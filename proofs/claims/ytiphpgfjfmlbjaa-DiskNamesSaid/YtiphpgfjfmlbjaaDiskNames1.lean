/-
  DiskNames' walk: the numbers and the chapter's examples of layer 4.
-/
import Derived.Test.YtiphpgfjfmlbjaaDiskAlive
namespace Go.Proofs.Ytiphpgfjfmlbjaa.PW
open Go.RowKit
open DK (Dv)
set_option linter.unusedVariables false
set_option linter.unusedSimpArgs false

set_option maxRecDepth 100000 in
set_option maxHeartbeats 1000000 in
theorem names_walk (w : World) : Calls Try.prog 3 #[] w fun e w' => e = .returned (.bool true) ∧ Below w.heap.size w w' := by
  obtain ⟨R, hR⟩ : ∃ R, R = List.replicate 128 120 := ⟨_, rfl⟩
  have AL := Lib.hid alive_any
  have m0 : DK.may (DK.fresh 2) = true := may_fresh (by omega) (by omega)
  have mK : DK.may (DK.killed (DK.fresh 2)) = true := may_killed m0
  have hlR : (R.take 1).length = 1 := by rw [hR]; simp
  have h3 : DK.wcode (DK.fresh 2) 0 (R.take 1) = 3 := by
    have : DK.sized (R.take 1) = false := by rw [DK.sized_no]; omega
    unfold DK.wcode; rw [m0, this]; rfl
  have h3' : DK.wcode' (DK.fresh 2) 0 (R.take 1) = 3 := by unfold DK.wcode'; rw [h3]; rfl
  have hw3 : writeDev (DK.fresh 2) 0 (R.take 1) = DK.Dv.nil := by simp [writeDev, h3']
  have r2 : DK.rcode (DK.fresh 2) 2 = 2 := by unfold DK.rcode; rw [m0]; rfl
  have rk0 : DK.rcode (DK.killed (DK.fresh 2)) 0 = 40 := by unfold DK.rcode; rw [mK]; rfl
  have rk9 : DK.rcode (DK.killed (DK.fresh 2)) 9 = 2 := by unfold DK.rcode; rw [mK]; rfl
  have kd : killDev (DK.fresh 2) = DK.killed (DK.fresh 2) := by simp [killDev, m0]
  have e0 : (DK.fresh 2).dead = false := rfl
  have eK : (DK.killed (DK.fresh 2)).dead = true := rfl
  have eN : (DK.Dv.nil).dead = false := rfl
  have CN0 : Hid (∀ w1, Calls Try.prog 9 #[.int .i64 0] w1 (NewDev w1 DK.Dv.nil 2)) := fun w1 => new_any 0 w1
  have CN1 : Hid (∀ w1, Calls Try.prog 9 #[.int .i64 257] w1 (NewDev w1 DK.Dv.nil 2)) := fun w1 => new_any 257 w1
  have CN2 : Hid (∀ w1, Calls Try.prog 9 #[.int .i64 2] w1 (NewDev w1 (DK.fresh 2) 0)) := fun w1 => new_any 2 w1
  have CF : Hid (∀ w1, Calls Try.prog 12 #[.int .u8 120] w1 fun e w' => ∃ g, e = .returned (.slice (some ⟨g, 0, none⟩) 128 128) ∧ w1.heap.size ≤ g ∧ Rd w'.heap.size w' (some ⟨g, 0, none⟩) 1 128 (R.take 1) ∧ Below w1.heap.size w1 w') := fun w1 => by
    rw [hR]
    exact (full_rd 120 (by omega) w1).mono fun e w' ⟨g, h1, h2, h3, h4⟩ => ⟨g, h1, h2, h3.take 1 (by omega), h4⟩
  have CW : Hid (∀ w1 a n c a' n' c' b m d, DevAt w1.heap.size w1 a n c a' n' c' (DK.fresh 2) → Rd w1.heap.size w1 b m d (R.take 1) → Calls Try.prog 11 #[.agg #[.slice a n c, .slice a' n' c', .bool false], .int .i64 0, .slice b m d] w1 (NewDev w1 DK.Dv.nil 3)) := fun w1 a n c a' n' c' b m d hd hq => by
    have := write_any a n c a' n' c' (DK.fresh 2) 0 b m d (R.take 1) w1 hd (fit_may m0) hq (by omega)
    rw [hw3, h3'] at this; exact this
  have CR : Hid (∀ w1 a n c a' n' c', DevAt w1.heap.size w1 a n c a' n' c' (DK.fresh 2) → Calls Try.prog 10 #[.agg #[.slice a n c, .slice a' n' c', .bool false], .int .i64 2] w1 (TheTx w1 (rtext (DK.fresh 2) 2) 2)) := fun w1 a n c a' n' c' hd => by
    have := read_tx a n c a' n' c' _ 2 w1 hd
    rw [r2] at this; exact this
  have CK : Hid (∀ w1 a n c a' n' c', DevAt w1.heap.size w1 a n c a' n' c' (DK.fresh 2) → Calls Try.prog 13 #[.agg #[.slice a n c, .slice a' n' c', .bool false]] w1 (NewDev w1 (DK.killed (DK.fresh 2)) 0)) := fun w1 a n c a' n' c' hd => by
    have := kill_any a n c a' n' c' (DK.fresh 2) w1 hd
    rw [kd, kcode_may m0] at this; exact this
  have CR0 : Hid (∀ w1 a n c a' n' c', DevAt w1.heap.size w1 a n c a' n' c' (DK.killed (DK.fresh 2)) → Calls Try.prog 10 #[.agg #[.slice a n c, .slice a' n' c', .bool true], .int .i64 0] w1 (TheTx w1 (rtext (DK.killed (DK.fresh 2)) 0) 40)) := fun w1 a n c a' n' c' hd => by
    have := read_tx a n c a' n' c' _ 0 w1 hd
    rw [rk0] at this; exact this
  have CR9 : Hid (∀ w1 a n c a' n' c', DevAt w1.heap.size w1 a n c a' n' c' (DK.killed (DK.fresh 2)) → Calls Try.prog 10 #[.agg #[.slice a n c, .slice a' n' c', .bool true], .int .i64 9] w1 (TheTx w1 (rtext (DK.killed (DK.fresh 2)) 9) 2)) := fun w1 a n c a' n' c' hd => by
    have := read_tx a n c a' n' c' _ 9 w1 hd
    rw [rk9] at this; exact this
  have CC : Hid (∀ w1, Calls Try.prog 15 #[.agg #[.slice none 0 0, .slice none 0 0, .bool false]] w1 fun e w' => e = .returned (.int .i64 8) ∧ Below w1.heap.size w1 w') := fun w1 => by
    have := check_any none 0 0 none 0 0 DK.Dv.nil w1 ⟨[], [], rds_nil _ _, rws_nil _ _, rfl, rfl⟩
    rw [show DK.kcode DK.Dv.nil = 8 from rfl] at this; exact this
  clear m0 mK hlR h3 h3' hw3 r2 rk0 rk9 kd hR
  generalize rtext (DK.fresh 2) 2 = y2 at *
  generalize rtext (DK.killed (DK.fresh 2)) 0 = yk0 at *
  generalize rtext (DK.killed (DK.fresh 2)) 9 = yk9 at *
  generalize DK.killed (DK.fresh 2) = DD at *
  generalize DK.fresh 2 = D0 at *
  generalize R.take 1 = R1 at *
  go_enter Try.func3, Try.ntmps3
  go_wp2_with fail
  refine (CN0.out _).mono ?_
  intro e wa hn
  obtain ⟨aa, na, ca, aa', na', ca', rfl, -, -, ba⟩ := hn.open
  have Ba := Lib.hid ba
  clear hn ba
  rw [eN]
  go_wp2_with fail
  refine (CN1.out _).mono ?_
  intro e wb hn
  obtain ⟨ab, nb, cb, ab', nb', cb', rfl, -, -, bb⟩ := hn.open
  have Bb := Lib.hid (thence (Ba.out.alloc Ba.out.size _) bb (Nat.le_refl _))
  clear hn bb
  rw [eN]
  go_wp2_with fail
  refine (CN2.out _).mono ?_
  intro e w1 hn
  obtain ⟨a1, n1, c1, a1', n1', c1', rfl, -, at1, b1⟩ := hn.open
  rw [e0]
  have AT1 := Lib.hid at1
  have B1 := Lib.hid (thence (Bb.out.alloc Bb.out.size _) b1 (Nat.le_refl _))
  clear hn at1 b1
  have bx1 := Bx.new w1 [.slice a1 n1 c1, .slice a1' n1' c1', .bool false] 25
  have bb1 : Below w1.heap.size w1 (w1.alloc (.cells [Value.slice a1 n1 c1, .slice a1' n1' c1', .bool false].toArray 25)) := (Below.refl _ _).alloc (Nat.le_refl _) _
  have BX1 := Lib.hid bx1
  have BB1 := Lib.hid bb1
  clear bx1 bb1
  go_wp2_with fail
  refine (CR.out _ _ _ _ _ _ _ (AT1.out.here BB1.out)).mono ?_
  rintro e W2 ⟨ax, nx, cx, rfl, -, bx⟩
  have HB2 : Hid (Below w.heap.size w W2) := thence (thence B1.out BB1.out (Nat.le_refl _)) bx (Nat.le_refl _)
  have AT2 : Hid (DevAt W2.heap.size W2 a1 n1 c1 a1' n1' c1' D0) := (AT1.out.here BB1.out).here bx
  have BX2 : Hid (Bx W2 w1.heap.size [.slice a1 n1 c1, .slice a1' n1' c1', .bool false]) := BX1.out.here bx
  clear bx BX1 BB1 AT1
  go_wp2_with fail
  obtain ⟨y0, y1, y2'⟩ := BX2.out.three
  refine wp_region_noPanic ?_
  refine PX.wp_region_x (fun w' => w'.cell? ⟨w1.heap.size, 0, none⟩ = some (.slice a1 n1 c1) ∧ w'.cell? ⟨w1.heap.size, 1, none⟩ = some (.slice a1' n1' c1') ∧ w'.cell? ⟨w1.heap.size, 2, none⟩ = some (.bool false)) 9 (by kernel_rfl) BX2.out.drew.three (fun hHeld => ?_)
  refine PX.wpAnyX_take (i := 0) (oi := ?_) (v := ?_) ?_ (by kernel_rfl) (by kernel_rfl) (by kernel_rfl) (by kernel_rfl) (by kernel_rfl) (fun _ _ _ h => h) (Or.inl ⟨?_, ?_⟩) (by assumption) ?_
  rotate_left 2
  · simp only [List.getElem?_toArray, List.getElem?_cons_succ, List.getElem?_cons_zero]; rfl
  · rfl
  · intro w hSw; (try dsimp only at hSw); go_simp <;> with_reducible rfl
  (try simp only [Act.put, List.setIfInBounds_toArray, List.set_cons_zero, List.set_cons_succ])
  refine PX.wpAnyX_two (i := 1) (j := 7) (o := ?_) (o' := ?_) (by kernel_rfl) ?_ ?_ (fun Kq hKq => ?_) (fun Kq hKq => ?_)
  rotate_left 2
  · simp only [List.getElem?_toArray, List.getElem?_cons_succ, List.getElem?_cons_zero]; rfl
  · simp only [List.getElem?_toArray, List.getElem?_cons_succ, List.getElem?_cons_zero]; rfl
  · go_simp
    refine (CF.out _).mono ?_
    rintro e w5 ⟨g5, rfl, hg5, r5, b5⟩
    have B5 : Hid (Below W2.heap.size W2 w5) := thence ((Below.refl W2.heap.size W2).drew) b5 (Nat.le_refl _)
    have R5 := Lib.hid r5
    have b5' := Lib.hid b5
    clear b5 r5 hg5
    go_wp2_with fail
    refine hKq.out _ _ ((BX2.out.here B5.out).three) (fun hHeld => ?_)
    clear hKq Kq
    (try simp only [Act.put, List.setIfInBounds_toArray, List.set_cons_zero, List.set_cons_succ])
    refine PX.wpAnyX_take (i := 2) (oi := ?_) (v := ?_) ?_ (by kernel_rfl) (by kernel_rfl) (by kernel_rfl) (by kernel_rfl) (by kernel_rfl) (fun _ _ _ h => h) (Or.inl ⟨?_, ?_⟩) (by assumption) ?_
    rotate_left 2
    · simp only [List.getElem?_toArray, List.getElem?_cons_succ, List.getElem?_cons_zero]; rfl
    · rfl
    · intro w hSw; (try dsimp only at hSw); go_simp <;> with_reducible rfl
    (try simp only [Act.put, List.setIfInBounds_toArray, List.set_cons_zero, List.set_cons_succ])
    refine PX.wpAnyX_two (i := 3) (j := 7) (o := ?_) (o' := ?_) (by kernel_rfl) ?_ ?_ (fun Kq hKq => ?_) (fun Kq hKq => ?_)
    rotate_left 2
    · simp only [List.getElem?_toArray, List.getElem?_cons_succ, List.getElem?_cons_zero]; rfl
    · simp only [List.getElem?_toArray, List.getElem?_cons_succ, List.getElem?_cons_zero]; rfl
    · go_simp
      refine (CW.out _ _ _ _ _ _ _ _ _ _ (AT2.out.here (B5.out)) (R5.out)).mono ?_
      intro e w6 hn
      obtain ⟨a6, n6, c6, a6', n6', c6', rfl, -, -, b6⟩ := hn.open
      rw [eN]
      have B6 : Hid (Below W2.heap.size W2 w6) := thence (B5.out) b6 (Nat.le_refl _)
      clear hn b6
      go_wp2_with fail
      refine hKq.out _ _ ((BX2.out.here B6.out).three) (fun hHeld => ?_)
      clear hKq Kq
      (try simp only [Act.put, List.setIfInBounds_toArray, List.set_cons_zero, List.set_cons_succ])
      refine PX.wpAnyX_take (i := 4) (oi := ?_) (v := ?_) ?_ (by kernel_rfl) (by kernel_rfl) (by kernel_rfl) (by kernel_rfl) (by kernel_rfl) (fun _ _ _ h => h) (Or.inl ⟨?_, ?_⟩) (by assumption) ?_
      rotate_left 2
      · simp only [List.getElem?_toArray, List.getElem?_cons_succ, List.getElem?_cons_zero]; rfl
      · rfl
      · intro w hSw; (try dsimp only at hSw); go_simp <;> with_reducible rfl
      (try simp only [Act.put, List.setIfInBounds_toArray, List.set_cons_zero, List.set_cons_succ])
      refine PX.wpAnyX_take (i := 5) (oi := ?_) (v := ?_) ?_ (by kernel_rfl) (by kernel_rfl) (by kernel_rfl) (by kernel_rfl) (by kernel_rfl) (fun _ _ _ h => h) (Or.inl ⟨?_, ?_⟩) (by assumption) ?_
      rotate_left 2
      · simp only [List.getElem?_toArray, List.getElem?_cons_succ, List.getElem?_cons_zero]; rfl
      · rfl
      · intro w hSw; (try dsimp only at hSw); go_simp <;> with_reducible rfl
      (try simp only [Act.put, List.setIfInBounds_toArray, List.set_cons_zero, List.set_cons_succ])
      refine PX.wpAnyX_take (i := 6) (oi := ?_) (v := ?_) ?_ (by kernel_rfl) (by kernel_rfl) (by kernel_rfl) (by kernel_rfl) (by kernel_rfl) (fun _ _ _ h => h) (Or.inl ⟨?_, ?_⟩) (by assumption) ?_
      rotate_left 2
      · simp only [List.getElem?_toArray, List.getElem?_cons_succ, List.getElem?_cons_zero]; rfl
      · rfl
      · intro w hSw; (try dsimp only at hSw); go_simp <;> with_reducible rfl
      (try simp only [Act.put, List.setIfInBounds_toArray, List.set_cons_zero, List.set_cons_succ])
      refine PX.wpAnyX_one (i := 7) (o := ?_) (by kernel_rfl) ?_ (fun Kq hKq => ?_)
      rotate_left
      · simp only [List.getElem?_toArray, List.getElem?_cons_succ, List.getElem?_cons_zero]; rfl
      go_simp
      refine hKq.out _ _ (((BX2.out.here B6.out).alloc _).three) (fun hHeld => ?_)
      clear hKq Kq
      (try simp only [Act.put, List.setIfInBounds_toArray, List.set_cons_zero, List.set_cons_succ])
      refine PX.wpAnyX_one (i := 8) (o := ?_) (by kernel_rfl) ?_ (fun Kq hKq => ?_)
      rotate_left
      · simp only [List.getElem?_toArray, List.getElem?_cons_succ, List.getElem?_cons_zero]; rfl
      go_simp
      refine hKq.out _ _ (((BX2.out.here B6.out).alloc _).three) (fun hHeld => ?_)
      clear hKq Kq
      (try simp only [Act.put, List.setIfInBounds_toArray, List.set_cons_zero, List.set_cons_succ])
      refine PX.wpAnyX_last (o := ?_) (by kernel_rfl) ?_ (fun Kq hKq => ?_)
      rotate_left
      · simp only [List.getElem?_toArray, List.getElem?_cons_succ, List.getElem?_cons_zero]; rfl
      go_simp
      refine hKq.out _ _ ?_
      clear hKq Kq
      (try simp only [Act.put, List.setIfInBounds_toArray, List.set_cons_zero, List.set_cons_succ])
      refine PX.wpAnyX_done (by kernel_rfl) ?_ _
      refine NoPanic.normal ?_
      have H26 : Hid (Below W2.heap.size W2 (w6.alloc (.cells #[.slice a6 n6 c6, .slice a6' n6' c6', .bool false] 25))) := B6.out.alloc B6.out.size _
      generalize hW : w6.alloc (.cells #[.slice a6 n6 c6, .slice a6' n6' c6', .bool false] 25) = W6 at *
      clear hW
      have BX6 := Lib.hid (BX2.out.here H26.out)
      have AT6 := Lib.hid (AT2.out.here H26.out)
      have HB6 := Lib.hid (thence HB2.out H26.out (Nat.le_refl _))
      obtain ⟨p0, p1, p2⟩ := BX6.out.three
      go_wp2_with fail
      refine (CK.out _ _ _ _ _ _ _ AT6.out).mono ?_
      intro e w7 hn
      obtain ⟨a7, n7, c7, a7', n7', c7', rfl, -, at7, b7⟩ := hn.open
      rw [eK]
      have HB7 := Lib.hid (thence HB6.out b7 (Nat.le_refl _))
      have bx7 := Bx.new w7 [.slice a7 n7 c7, .slice a7' n7' c7', .bool true] 25
      have bb7 : Below w7.heap.size w7 (w7.alloc (.cells [Value.slice a7 n7 c7, .slice a7' n7' c7', .bool true].toArray 25)) := (Below.refl _ _).alloc (Nat.le_refl _) _
      have BX7 := Lib.hid bx7
      have BB7 := Lib.hid bb7
      have AT7 := Lib.hid (at7.here bb7)
      clear hn at7 b7 bx7 bb7
      go_wp2_with fail
      refine (CR0.out _ _ _ _ _ _ _ AT7.out).mono ?_
      rintro e w8 ⟨a8, n8, c8, rfl, -, b8⟩
      have BX8 := Lib.hid (BX7.out.here b8)
      have AT8 := Lib.hid (AT7.out.here b8)
      have HB8 := Lib.hid (thence (thence HB7.out BB7.out (Nat.le_refl _)) b8 (Nat.le_refl _))
      obtain ⟨q0, q1, q2⟩ := BX8.out.three
      clear b8
      go_wp2_with fail
      refine (CR9.out _ _ _ _ _ _ _ AT8.out).mono ?_
      rintro e w9 ⟨a9, n9, c9, rfl, -, b9⟩
      have HB9 := Lib.hid (thence HB8.out b9 (Nat.le_refl _))
      clear b9
      go_wp2_with fail
      refine (AL.out _).mono ?_
      rintro e w10 ⟨rfl, b10⟩
      have HB10 := Lib.hid (thence HB9.out b10 (Nat.le_refl _))
      clear b10
      go_wp2_with fail
      refine (CC.out _).mono ?_
      rintro e w11 ⟨rfl, b11⟩
      have HB11 := Lib.hid (thence HB10.out b11 (Nat.le_refl _))
      clear b11
      go_wp2_with fail
      go_ret
      exact ⟨rfl, HB11.out⟩
    · go_simp
      have HG0 : Hid (W2.heap.size ≤ w5.heap.size) := B5.out.size
      have NE1 : Hid (w5.heap.size ≠ w1.heap.size) := Nat.ne_of_gt (Nat.lt_of_lt_of_le BX2.out.lt B5.out.size)
      refine hKq.out _ _ (((BX2.out.here B5.out).alloc _).three) (fun hHeld => ?_)
      clear hKq Kq
      (try simp only [Act.put, List.setIfInBounds_toArray, List.set_cons_zero, List.set_cons_succ])
      refine PX.wpAnyX_one (i := 3) (o := ?_) (by kernel_rfl) ?_ (fun Kq hKq => ?_)
      rotate_left
      · simp only [List.getElem?_toArray, List.getElem?_cons_succ, List.getElem?_cons_zero]; rfl
      go_simp
      refine (CW.out _ _ _ _ _ _ _ _ _ _ (AT2.out.here (B5.out.alloc B5.out.size (.cells #[.slice none 0 0, .slice none 0 0, .bool false] 25))) (R5.out.here ((Below.refl _ _).alloc (Nat.le_refl _) (.cells #[.slice none 0 0, .slice none 0 0, .bool false] 25)))).mono ?_
      intro e w6 hn
      obtain ⟨a6, n6, c6, a6', n6', c6', rfl, -, -, b6⟩ := hn.open
      rw [eN]
      have B6 : Hid (Below W2.heap.size W2 w6) := thence (B5.out.alloc B5.out.size (.cells #[.slice none 0 0, .slice none 0 0, .bool false] 25)) b6 (Nat.le_refl _)
      have BX6 : Hid (Bx w6 (w5.heap.size) [.slice none 0 0, .slice none 0 0, .bool false]) := (Bx.new w5 [.slice none 0 0, .slice none 0 0, .bool false] 25).here b6
      obtain ⟨z0, z1, z2⟩ := BX6.out.three
      have zf0 := BX6.out.frozen 0
      have zf1 := BX6.out.frozen 1
      have zf2 := BX6.out.frozen 2
      clear hn b6
      go_wp2_with fail
      refine hKq.out _ _ ((BX2.out.here B6.out).three) (fun hHeld => ?_)
      clear hKq Kq
      (try simp only [Act.put, List.setIfInBounds_toArray, List.set_cons_zero, List.set_cons_succ])
      refine PX.wpAnyX_take (i := 4) (oi := ?_) (v := ?_) ?_ (by kernel_rfl) (by kernel_rfl) (by kernel_rfl) (by kernel_rfl) (by kernel_rfl) (fun _ _ _ h => h) (Or.inl ⟨?_, ?_⟩) (by assumption) ?_
      rotate_left 2
      · simp only [List.getElem?_toArray, List.getElem?_cons_succ, List.getElem?_cons_zero]; rfl
      · rfl
      · intro w hSw; (try dsimp only at hSw); go_simp <;> with_reducible rfl
      (try simp only [Act.put, List.setIfInBounds_toArray, List.set_cons_zero, List.set_cons_succ])
      refine PX.wpAnyX_take (i := 5) (oi := ?_) (v := ?_) ?_ (by kernel_rfl) (by kernel_rfl) (by kernel_rfl) (by kernel_rfl) (by kernel_rfl) (fun _ _ _ h => h) (Or.inl ⟨?_, ?_⟩) (by assumption) ?_
      rotate_left 2
      · simp only [List.getElem?_toArray, List.getElem?_cons_succ, List.getElem?_cons_zero]; rfl
      · rfl
      · intro w hSw; (try dsimp only at hSw); go_simp <;> with_reducible rfl
      (try simp only [Act.put, List.setIfInBounds_toArray, List.set_cons_zero, List.set_cons_succ])
      refine PX.wpAnyX_take (i := 6) (oi := ?_) (v := ?_) ?_ (by kernel_rfl) (by kernel_rfl) (by kernel_rfl) (by kernel_rfl) (by kernel_rfl) (fun _ _ _ h => h) (Or.inl ⟨?_, ?_⟩) (by assumption) ?_
      rotate_left 2
      · simp only [List.getElem?_toArray, List.getElem?_cons_succ, List.getElem?_cons_zero]; rfl
      · rfl
      · intro w hSw; (try dsimp only at hSw); go_simp <;> with_reducible rfl
      (try simp only [Act.put, List.setIfInBounds_toArray, List.set_cons_zero, List.set_cons_succ])
      refine PX.wpAnyX_one (i := 8) (o := ?_) (by kernel_rfl) ?_ (fun Kq hKq => ?_)
      rotate_left
      · simp only [List.getElem?_toArray, List.getElem?_cons_succ, List.getElem?_cons_zero]; rfl
      go_simp
      refine hKq.out _ _ ((((BX2.out.here B6.out).other _ (NE1.out) _).other _ (NE1.out) _).other _ (NE1.out) _ |>.three) (fun hHeld => ?_)
      clear hKq Kq
      (try simp only [Act.put, List.setIfInBounds_toArray, List.set_cons_zero, List.set_cons_succ])
      refine PX.wpAnyX_last (o := ?_) (by kernel_rfl) ?_ (fun Kq hKq => ?_)
      rotate_left
      · simp only [List.getElem?_toArray, List.getElem?_cons_succ, List.getElem?_cons_zero]; rfl
      go_simp
      refine hKq.out _ _ ?_
      clear hKq Kq
      (try simp only [Act.put, List.setIfInBounds_toArray, List.set_cons_zero, List.set_cons_succ])
      refine PX.wpAnyX_done (by kernel_rfl) ?_ _
      refine NoPanic.normal ?_
      have H26 : Hid (Below W2.heap.size W2 (((w6.setCell ⟨w5.heap.size, 0, none⟩ (.slice a6 n6 c6)).setCell ⟨w5.heap.size, 1, none⟩ (.slice a6' n6' c6')).setCell ⟨w5.heap.size, 2, none⟩ (.bool false))) := ((B6.out.setCell (p := ⟨w5.heap.size, 0, none⟩) HG0.out _).setCell (p := ⟨w5.heap.size, 1, none⟩) HG0.out _).setCell (p := ⟨w5.heap.size, 2, none⟩) HG0.out _
      generalize hW : (((w6.setCell ⟨w5.heap.size, 0, none⟩ (.slice a6 n6 c6)).setCell ⟨w5.heap.size, 1, none⟩ (.slice a6' n6' c6')).setCell ⟨w5.heap.size, 2, none⟩ (.bool false)) = W6 at *
      clear hW
      have BX6 := Lib.hid (BX2.out.here H26.out)
      have AT6 := Lib.hid (AT2.out.here H26.out)
      have HB6 := Lib.hid (thence HB2.out H26.out (Nat.le_refl _))
      obtain ⟨p0, p1, p2⟩ := BX6.out.three
      go_wp2_with fail
      refine (CK.out _ _ _ _ _ _ _ AT6.out).mono ?_
      intro e w7 hn
      obtain ⟨a7, n7, c7, a7', n7', c7', rfl, -, at7, b7⟩ := hn.open
      rw [eK]
      have HB7 := Lib.hid (thence HB6.out b7 (Nat.le_refl _))
      have bx7 := Bx.new w7 [.slice a7 n7 c7, .slice a7' n7' c7', .bool true] 25
      have bb7 : Below w7.heap.size w7 (w7.alloc (.cells [Value.slice a7 n7 c7, .slice a7' n7' c7', .bool true].toArray 25)) := (Below.refl _ _).alloc (Nat.le_refl _) _
      have BX7 := Lib.hid bx7
      have BB7 := Lib.hid bb7
      have AT7 := Lib.hid (at7.here bb7)
      clear hn at7 b7 bx7 bb7
      go_wp2_with fail
      refine (CR0.out _ _ _ _ _ _ _ AT7.out).mono ?_
      rintro e w8 ⟨a8, n8, c8, rfl, -, b8⟩
      have BX8 := Lib.hid (BX7.out.here b8)
      have AT8 := Lib.hid (AT7.out.here b8)
      have HB8 := Lib.hid (thence (thence HB7.out BB7.out (Nat.le_refl _)) b8 (Nat.le_refl _))
      obtain ⟨q0, q1, q2⟩ := BX8.out.three
      clear b8
      go_wp2_with fail
      refine (CR9.out _ _ _ _ _ _ _ AT8.out).mono ?_
      rintro e w9 ⟨a9, n9, c9, rfl, -, b9⟩
      have HB9 := Lib.hid (thence HB8.out b9 (Nat.le_refl _))
      clear b9
      go_wp2_with fail
      refine (AL.out _).mono ?_
      rintro e w10 ⟨rfl, b10⟩
      have HB10 := Lib.hid (thence HB9.out b10 (Nat.le_refl _))
      clear b10
      go_wp2_with fail
      refine (CC.out _).mono ?_
      rintro e w11 ⟨rfl, b11⟩
      have HB11 := Lib.hid (thence HB10.out b11 (Nat.le_refl _))
      clear b11
      go_wp2_with fail
      go_ret
      exact ⟨rfl, HB11.out⟩
  · go_simp
    have HG0 : Hid (W2.heap.size ≤ W2.heap.size) := Nat.le_refl _
    have NE1 : Hid (W2.heap.size ≠ w1.heap.size) := Nat.ne_of_gt (Nat.lt_of_lt_of_le BX2.out.lt (Nat.le_refl _))
    refine hKq.out _ _ ((BX2.out.drew.alloc _).three) (fun hHeld => ?_)
    clear hKq Kq
    (try simp only [Act.put, List.setIfInBounds_toArray, List.set_cons_zero, List.set_cons_succ])
    refine PX.wpAnyX_one (i := 1) (o := ?_) (by kernel_rfl) ?_ (fun Kq hKq => ?_)
    rotate_left
    · simp only [List.getElem?_toArray, List.getElem?_cons_succ, List.getElem?_cons_zero]; rfl
    go_simp
    refine (CF.out _).mono ?_
    rintro e w5 ⟨g5, rfl, hg5, r5, b5⟩
    have B5 : Hid (Below W2.heap.size W2 w5) := thence (((Below.refl W2.heap.size W2).drew.alloc (Nat.le_refl _) (.cells #[.slice none 0 0, .slice none 0 0, .bool false] 25))) b5 (Nat.le_refl _)
    have R5 := Lib.hid r5
    have b5' := Lib.hid b5
    clear b5 r5 hg5
    go_wp2_with fail
    refine hKq.out _ _ ((BX2.out.here B5.out).three) (fun hHeld => ?_)
    clear hKq Kq
    (try simp only [Act.put, List.setIfInBounds_toArray, List.set_cons_zero, List.set_cons_succ])
    refine PX.wpAnyX_take (i := 2) (oi := ?_) (v := ?_) ?_ (by kernel_rfl) (by kernel_rfl) (by kernel_rfl) (by kernel_rfl) (by kernel_rfl) (fun _ _ _ h => h) (Or.inl ⟨?_, ?_⟩) (by assumption) ?_
    rotate_left 2
    · simp only [List.getElem?_toArray, List.getElem?_cons_succ, List.getElem?_cons_zero]; rfl
    · rfl
    · intro w hSw; (try dsimp only at hSw); go_simp <;> with_reducible rfl
    (try simp only [Act.put, List.setIfInBounds_toArray, List.set_cons_zero, List.set_cons_succ])
    refine PX.wpAnyX_one (i := 3) (o := ?_) (by kernel_rfl) ?_ (fun Kq hKq => ?_)
    rotate_left
    · simp only [List.getElem?_toArray, List.getElem?_cons_succ, List.getElem?_cons_zero]; rfl
    go_simp
    refine (CW.out _ _ _ _ _ _ _ _ _ _ (AT2.out.here (B5.out)) (R5.out)).mono ?_
    intro e w6 hn
    obtain ⟨a6, n6, c6, a6', n6', c6', rfl, -, -, b6⟩ := hn.open
    rw [eN]
    have B6 : Hid (Below W2.heap.size W2 w6) := thence (B5.out) b6 (Nat.le_refl _)
    have BX6 : Hid (Bx w6 (W2.heap.size) [.slice none 0 0, .slice none 0 0, .bool false]) := ((Bx.new W2.drew [.slice none 0 0, .slice none 0 0, .bool false] 25).here b5'.out).here b6
    obtain ⟨z0, z1, z2⟩ := BX6.out.three
    have zf0 := BX6.out.frozen 0
    have zf1 := BX6.out.frozen 1
    have zf2 := BX6.out.frozen 2
    clear hn b6
    go_wp2_with fail
    refine hKq.out _ _ ((BX2.out.here B6.out).three) (fun hHeld => ?_)
    clear hKq Kq
    (try simp only [Act.put, List.setIfInBounds_toArray, List.set_cons_zero, List.set_cons_succ])
    refine PX.wpAnyX_take (i := 4) (oi := ?_) (v := ?_) ?_ (by kernel_rfl) (by kernel_rfl) (by kernel_rfl) (by kernel_rfl) (by kernel_rfl) (fun _ _ _ h => h) (Or.inl ⟨?_, ?_⟩) (by assumption) ?_
    rotate_left 2
    · simp only [List.getElem?_toArray, List.getElem?_cons_succ, List.getElem?_cons_zero]; rfl
    · rfl
    · intro w hSw; (try dsimp only at hSw); go_simp <;> with_reducible rfl
    (try simp only [Act.put, List.setIfInBounds_toArray, List.set_cons_zero, List.set_cons_succ])
    refine PX.wpAnyX_take (i := 5) (oi := ?_) (v := ?_) ?_ (by kernel_rfl) (by kernel_rfl) (by kernel_rfl) (by kernel_rfl) (by kernel_rfl) (fun _ _ _ h => h) (Or.inl ⟨?_, ?_⟩) (by assumption) ?_
    rotate_left 2
    · simp only [List.getElem?_toArray, List.getElem?_cons_succ, List.getElem?_cons_zero]; rfl
    · rfl
    · intro w hSw; (try dsimp only at hSw); go_simp <;> with_reducible rfl
    (try simp only [Act.put, List.setIfInBounds_toArray, List.set_cons_zero, List.set_cons_succ])
    refine PX.wpAnyX_take (i := 6) (oi := ?_) (v := ?_) ?_ (by kernel_rfl) (by kernel_rfl) (by kernel_rfl) (by kernel_rfl) (by kernel_rfl) (fun _ _ _ h => h) (Or.inl ⟨?_, ?_⟩) (by assumption) ?_
    rotate_left 2
    · simp only [List.getElem?_toArray, List.getElem?_cons_succ, List.getElem?_cons_zero]; rfl
    · rfl
    · intro w hSw; (try dsimp only at hSw); go_simp <;> with_reducible rfl
    (try simp only [Act.put, List.setIfInBounds_toArray, List.set_cons_zero, List.set_cons_succ])
    refine PX.wpAnyX_one (i := 8) (o := ?_) (by kernel_rfl) ?_ (fun Kq hKq => ?_)
    rotate_left
    · simp only [List.getElem?_toArray, List.getElem?_cons_succ, List.getElem?_cons_zero]; rfl
    go_simp
    refine hKq.out _ _ ((((BX2.out.here B6.out).other _ (NE1.out) _).other _ (NE1.out) _).other _ (NE1.out) _ |>.three) (fun hHeld => ?_)
    clear hKq Kq
    (try simp only [Act.put, List.setIfInBounds_toArray, List.set_cons_zero, List.set_cons_succ])
    refine PX.wpAnyX_last (o := ?_) (by kernel_rfl) ?_ (fun Kq hKq => ?_)
    rotate_left
    · simp only [List.getElem?_toArray, List.getElem?_cons_succ, List.getElem?_cons_zero]; rfl
    go_simp
    refine hKq.out _ _ ?_
    clear hKq Kq
    (try simp only [Act.put, List.setIfInBounds_toArray, List.set_cons_zero, List.set_cons_succ])
    refine PX.wpAnyX_done (by kernel_rfl) ?_ _
    refine NoPanic.normal ?_
    have H26 : Hid (Below W2.heap.size W2 (((w6.setCell ⟨W2.heap.size, 0, none⟩ (.slice a6 n6 c6)).setCell ⟨W2.heap.size, 1, none⟩ (.slice a6' n6' c6')).setCell ⟨W2.heap.size, 2, none⟩ (.bool false))) := ((B6.out.setCell (p := ⟨W2.heap.size, 0, none⟩) HG0.out _).setCell (p := ⟨W2.heap.size, 1, none⟩) HG0.out _).setCell (p := ⟨W2.heap.size, 2, none⟩) HG0.out _
    generalize hW : (((w6.setCell ⟨W2.heap.size, 0, none⟩ (.slice a6 n6 c6)).setCell ⟨W2.heap.size, 1, none⟩ (.slice a6' n6' c6')).setCell ⟨W2.heap.size, 2, none⟩ (.bool false)) = W6 at *
    clear hW
    have BX6 := Lib.hid (BX2.out.here H26.out)
    have AT6 := Lib.hid (AT2.out.here H26.out)
    have HB6 := Lib.hid (thence HB2.out H26.out (Nat.le_refl _))
    obtain ⟨p0, p1, p2⟩ := BX6.out.three
    go_wp2_with fail
    refine (CK.out _ _ _ _ _ _ _ AT6.out).mono ?_
    intro e w7 hn
    obtain ⟨a7, n7, c7, a7', n7', c7', rfl, -, at7, b7⟩ := hn.open
    rw [eK]
    have HB7 := Lib.hid (thence HB6.out b7 (Nat.le_refl _))
    have bx7 := Bx.new w7 [.slice a7 n7 c7, .slice a7' n7' c7', .bool true] 25
    have bb7 : Below w7.heap.size w7 (w7.alloc (.cells [Value.slice a7 n7 c7, .slice a7' n7' c7', .bool true].toArray 25)) := (Below.refl _ _).alloc (Nat.le_refl _) _
    have BX7 := Lib.hid bx7
    have BB7 := Lib.hid bb7
    have AT7 := Lib.hid (at7.here bb7)
    clear hn at7 b7 bx7 bb7
    go_wp2_with fail
    refine (CR0.out _ _ _ _ _ _ _ AT7.out).mono ?_
    rintro e w8 ⟨a8, n8, c8, rfl, -, b8⟩
    have BX8 := Lib.hid (BX7.out.here b8)
    have AT8 := Lib.hid (AT7.out.here b8)
    have HB8 := Lib.hid (thence (thence HB7.out BB7.out (Nat.le_refl _)) b8 (Nat.le_refl _))
    obtain ⟨q0, q1, q2⟩ := BX8.out.three
    clear b8
    go_wp2_with fail
    refine (CR9.out _ _ _ _ _ _ _ AT8.out).mono ?_
    rintro e w9 ⟨a9, n9, c9, rfl, -, b9⟩
    have HB9 := Lib.hid (thence HB8.out b9 (Nat.le_refl _))
    clear b9
    go_wp2_with fail
    refine (AL.out _).mono ?_
    rintro e w10 ⟨rfl, b10⟩
    have HB10 := Lib.hid (thence HB9.out b10 (Nat.le_refl _))
    clear b10
    go_wp2_with fail
    refine (CC.out _).mono ?_
    rintro e w11 ⟨rfl, b11⟩
    have HB11 := Lib.hid (thence HB10.out b11 (Nat.le_refl _))
    clear b11
    go_wp2_with fail
    go_ret
    exact ⟨rfl, HB11.out⟩
end Go.Proofs.Ytiphpgfjfmlbjaa.PW
