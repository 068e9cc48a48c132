/-
  Contracts of layer 5's laws: a block of one byte, two devices, two acts, what lasts at place 1.
-/
import Derived.Test.YtnhfkfihlkbkfaaDiskTold
import Derived.Test.YtnhfkfihlkbkfaaActsRefRun
namespace Go.Proofs.Ytnhfkfihlkbkfaa.PW
open Go.RowKit
open DK (Dv)
set_option linter.unusedVariables false
set_option linter.unusedSimpArgs false
set_option maxRecDepth 100000

set_option maxRecDepth 100000 in
/-- Layer 5's 'full': a new block of one byte. -/
theorem law5Full_any (x : Nat) (hx : x < 256) (w : World) :
    Calls Try.prog 32 #[.int .u8 (x : Int)] w fun e w' => ∃ g, e = .returned (.slice (some ⟨g, 0, none⟩) 128 128) ∧ w.heap.size ≤ g ∧ Blk w' g (List.replicate 128 x) ∧ Below w.heap.size w w' := by
  obtain ⟨Z, HZ, HZl, hz⟩ := make128'
  obtain ⟨R, HR⟩ : ∃ R, Hid (R = List.replicate 128 x) := ⟨_, rfl⟩
  rw [← HR.out]
  have HW : Hid (∀ k, k < 128 → (List.replicate k x ++ List.replicate (128 - k) 0).set k x = List.replicate (k + 1) x ++ List.replicate (128 - (k + 1)) 0) := by
    intro k hk
    obtain ⟨m, hm⟩ : ∃ m, 128 - k = m + 1 := ⟨128 - k - 1, by omega⟩
    have hm2 : 128 - (k + 1) = m := by omega
    rw [hm, hm2, List.replicate_succ, List.set_append_right _ _ (by simp), List.replicate_succ']
    simp
  have hblk : Blk (w.alloc (.cells (Z.map bv).toArray 5)) w.heap.size (List.replicate 0 x ++ List.replicate (128 - 0) 0) := by
    have : List.replicate 0 x ++ List.replicate (128 - 0) 0 = Z := by rw [HZ.out]; rfl
    rw [this]; exact Blk.alloc w Z _
  have hbel : Below w.heap.size w (w.alloc (.cells (Z.map bv).toArray 5)) := (Below.refl _ w).alloc (Nat.le_refl _) _
  have Hk := Lib.hid hblk
  have Hb := Lib.hid hbel
  clear hblk hbel
  go_enter Try.func32, Try.ntmps32
  go_wp2
  have hblk := Hk.out
  have hbel := Hb.out
  clear Hk Hb hz
  generalize w.alloc (.cells (Z.map bv).toArray 5) = w1 at *
  generalize hgB : w.heap.size = g at *
  have HgB := Lib.hid hgB
  clear hgB
  go_loopw [4] (fun i wr => ∃ k : Nat, k ≤ 128 ∧ i = .int .i64 k ∧ Blk wr g (List.replicate k x ++ List.replicate (128 - k) 0) ∧ Below g w wr) (fun i _ => 128 - (intOf i).toNat)
  case atStart => exact ⟨0, by omega, rfl, hblk, hbel⟩
  case round =>
    obtain ⟨k, hk, rfl, hb, hl⟩ := hrel
    by_cases hlt : k < 128
    · have f1 := hb.cell k (by simp; omega)
      have f2 := hb.frozen k
      have hs := hb.set k x
      rw [HW.out k hlt] at hs
      have hb' : Below g w (wr.setCell ⟨g, k, none⟩ (.int .u8 (x : Int))) := hl.setCell (Nat.le_refl _) _
      have Hs := Lib.hid hs
      have Hb := Lib.hid hb'
      have Hlt := Lib.hid hlt
      clear hs hb' hb hl hblk hbel
      generalize (List.replicate k x ++ List.replicate (128 - k) 0).getD k 0 = y at *
      go_wp2
      go_roundw
      case rel => exact ⟨k + 1, by have := Hlt.out; omega, by go_num, Hs.out, Hb.out⟩
      case measure => simp [intOf]; omega
    · obtain rfl : k = 128 := by omega
      go_wp2
      go_ret
      exact ⟨g, rfl, by rw [HgB.out]; exact Nat.le_refl _, by rw [HR.out]; simpa using hb, by rw [HgB.out]; exact hl⟩

/-- A list that a literal lays in a new block. -/
theorem Rg.lit {α : Type} {K : Kind α} (L : List α) (w : World) (t : TypeId) (hL : L.length ≤ 1000) (each : ∀ x ∈ L, K.inn 0 w.heap.size w x) :
    Rg K 0 (w.alloc (.cells (K.row L).toArray t)).heap.size (w.alloc (.cells (K.row L).toArray t)) (some ⟨w.heap.size, 0, none⟩) L.length L.length L := by
  have hb : Below w.heap.size w (w.alloc (.cells (K.row L).toArray t)) := (Below.refl _ _).alloc (Nat.le_refl _) _
  have hz : (w.alloc (.cells (K.row L).toArray t)).heap.size = w.heap.size + 1 := by simp
  exact Rg.ofBx (Bx.new w (K.row L) t) (Nat.zero_le _) (by omega) (by unfold maxLen; omega) (fun x hx => K.mono (K.keep (each x hx) (.ofBelow hb (Nat.le_refl _))) (Nat.le_refl _) (by omega))
theorem full5_rd (x : Nat) (hx : x < 256) (w : World) :
    Calls Try.prog 32 #[.int .u8 (x : Int)] w fun e w' => ∃ g, e = .returned (.slice (some ⟨g, 0, none⟩) 128 128) ∧ w.heap.size ≤ g ∧ Rd w'.heap.size w' (some ⟨g, 0, none⟩) 128 128 (List.replicate 128 x) ∧ Below w.heap.size w w' :=
  (law5Full_any x hx w).mono fun e w' ⟨g, he, hg, hb, hB⟩ => ⟨g, he, hg, hb.rd (by simp) (by intro y hy; rw [List.mem_replicate] at hy; omega), hB⟩

set_option maxHeartbeats 1000000 in
theorem lasts5_any (a : Option Addr) (len cap : Nat) (L : List Dn) (x : Nat) (hx : x < 256) (w : World) (hr : Rg kDn 0 w.heap.size w a len cap L) (h2 : L.length = 2) :
    Calls Try.prog 47 #[.slice a len cap, .int .i64 0, .int .u8 (x : Int)] w fun e w' => e = .returned (.bool (told (ltext ((devs L).getD 0 Dv.nil) 1) (DK.rcode ((devs L).getD 0 Dv.nil) 1) x)) ∧ Below w.heap.size w w' := by
  obtain ⟨ab, off, xa, xn, xc, xa', xn', xc', D, e1, hbB, e2, dv⟩ := hr.dev 0 (by omega)
  subst e1
  have ED : (devs L).getD 0 Dv.nil = D := by rw [devs_getD, e2]
  obtain ⟨c0, c1, c2⟩ := hr.dcell (by omega) e2
  rw [Nat.zero_mul, Nat.add_zero] at c0 c1 c2
  obtain rfl : len = 2 := by rw [hr.long, h2]
  rw [ED]
  have CR := Lib.hid (lasting_tx xa xn xc xa' xn' xc' D 1 w dv.at)
  have CF : Hid (∀ w1, Calls Try.prog 32 #[.int .u8 (x : Int)] w1 fun e w' => ∃ g, e = .returned (.slice (some ⟨g, 0, none⟩) 128 128) ∧ w1.heap.size ≤ g ∧ Rd w'.heap.size w' (some ⟨g, 0, none⟩) 128 128 (List.replicate 128 x) ∧ Below w1.heap.size w1 w') := fun w1 => full5_rd x hx w1
  have TS : Hid (∀ m, Bytes m → ((str m).toList == (str (List.replicate 128 x)).toList) = told m 0 x) := fun m hm => told_str hx hm
  clear hr hx ED e2 dv h2
  generalize ltext D 1 = m at *
  generalize List.replicate 128 x = R at *
  generalize D.dead = dd at *
  by_cases h0 : DK.rcode D 1 = 0
  · rw [h0] at CR ⊢
    clear h0
    go_enter Try.func47, Try.ntmps47
    go_wp2_with fail
    refine CR.out.mono ?_
    rintro e w1 ⟨ar, nr, cr, rfl, it, b1⟩
    have IT := Lib.hid it
    have B1 := Lib.hid b1
    clear it b1
    go_wp2_with fail
    refine wp_region_noPanic ?_
    refine PX.wp_region_y (fun w' => Below w1.heap.size w1 w') [10] (by kernel_rfl) (Below.refl _ _).drew (fun hHeld => ?_)
    refine PX.wpAnyY_take (i := 0) (oi := ?_) (v := ?_) ?_ (by kernel_rfl) (by kernel_rfl) (by kernel_rfl) (by kernel_rfl) (by kernel_rfl) (fun _ _ _ h => h) (Or.inl ⟨?_, ?_⟩) (by assumption) ?_
    rotate_left 2
    · simp only [List.getElem?_toArray, List.getElem?_cons_succ, List.getElem?_cons_zero]; rfl
    · rfl
    · intro w hSw; (try dsimp only at hSw); go_simp <;> with_reducible rfl
    (try simp only [Act.put, List.setIfInBounds_toArray, List.set_cons_zero, List.set_cons_succ])
    refine PX.wpAnyY_take (i := 1) (oi := ?_) (v := ?_) ?_ (by kernel_rfl) (by kernel_rfl) (by kernel_rfl) (by kernel_rfl) (by kernel_rfl) (fun _ _ _ h => h) (Or.inl ⟨?_, ?_⟩) (by assumption) ?_
    rotate_left 2
    · simp only [List.getElem?_toArray, List.getElem?_cons_succ, List.getElem?_cons_zero]; rfl
    · rfl
    · intro w hSw; (try dsimp only at hSw); go_simp <;> with_reducible rfl
    (try simp only [Act.put, List.setIfInBounds_toArray, List.set_cons_zero, List.set_cons_succ])
    refine PX.wpAnyY_take (i := 2) (oi := ?_) (v := ?_) ?_ (by kernel_rfl) (by kernel_rfl) (by kernel_rfl) (by kernel_rfl) (by kernel_rfl) (fun _ _ _ h => h) (Or.inl ⟨?_, ?_⟩) (by assumption) ?_
    rotate_left 2
    · simp only [List.getElem?_toArray, List.getElem?_cons_succ, List.getElem?_cons_zero]; rfl
    · rfl
    · intro w hSw; (try dsimp only at hSw); go_simp <;> with_reducible rfl
    (try simp only [Act.put, List.setIfInBounds_toArray, List.set_cons_zero, List.set_cons_succ])
    refine PX.wpAnyY_take (i := 3) (oi := ?_) (v := ?_) ?_ (by kernel_rfl) (by kernel_rfl) (by kernel_rfl) (by kernel_rfl) (by kernel_rfl) (fun _ _ _ h => h) (Or.inl ⟨?_, ?_⟩) (by assumption) ?_
    rotate_left 2
    · simp only [List.getElem?_toArray, List.getElem?_cons_succ, List.getElem?_cons_zero]; rfl
    · rfl
    · intro w hSw; (try dsimp only at hSw); go_simp <;> with_reducible rfl
    (try simp only [Act.put, List.setIfInBounds_toArray, List.set_cons_zero, List.set_cons_succ])
    refine PX.wpAnyY_take (i := 5) (oi := ?_) (v := ?_) ?_ (by kernel_rfl) (by kernel_rfl) (by kernel_rfl) (by kernel_rfl) (by kernel_rfl) (fun _ _ _ h => h) (Or.inl ⟨?_, ?_⟩) (by assumption) ?_
    rotate_left 2
    · simp only [List.getElem?_toArray, List.getElem?_cons_succ, List.getElem?_cons_zero]; rfl
    · rfl
    · intro w hSw; (try dsimp only at hSw); go_simp <;> with_reducible rfl
    (try simp only [Act.put, List.setIfInBounds_toArray, List.set_cons_zero, List.set_cons_succ])
    refine PX.wpAnyY_take (i := 4) (oi := ?_) (v := ?_) ?_ (by kernel_rfl) (by kernel_rfl) (by kernel_rfl) (by kernel_rfl) (by kernel_rfl) (fun _ _ _ h => h) (Or.inl ⟨?_, ?_⟩) (by assumption) ?_
    rotate_left 2
    · simp only [List.getElem?_toArray, List.getElem?_cons_succ, List.getElem?_cons_zero]; rfl
    · rfl
    · intro w hSw; (try dsimp only at hSw); have T4 := text_is w _ _ _ _ (IT.out.rd.below hSw); go_simp <;> with_reducible rfl
    (try simp only [Act.put, List.setIfInBounds_toArray, List.set_cons_zero, List.set_cons_succ])
    refine PX.wpAnyY_one (i := 6) (o := ?_) (by kernel_rfl) ?_ (fun Kq hKq => ?_)
    rotate_left
    · simp only [List.getElem?_toArray, List.getElem?_cons_succ, List.getElem?_cons_zero]; rfl
    go_simp
    refine (CF.out _).mono ?_
    rintro e w5 ⟨g5, rfl, hg5, r5, b5⟩
    have B5 : Hid (Below w1.heap.size w1 w5) := hHeld.trans (b5.mono hHeld.size)
    have R5 := Lib.hid r5
    clear b5 r5 hg5
    go_wp2_with fail
    refine hKq.out _ _ (B5.out) (fun hHeld => ?_)
    clear hKq Kq
    (try simp only [Act.put, List.setIfInBounds_toArray, List.set_cons_zero, List.set_cons_succ])
    refine PX.wpAnyY_one (i := 7) (o := ?_) (by kernel_rfl) ?_ (fun Kq hKq => ?_)
    rotate_left
    · simp only [List.getElem?_toArray, List.getElem?_cons_succ, List.getElem?_cons_zero]; rfl
    have T7 := text_is _ _ _ _ _ R5.out
    go_simp
    refine hKq.out _ _ (B5.out) (fun hHeld => ?_)
    clear hKq Kq
    (try simp only [Act.put, List.setIfInBounds_toArray, List.set_cons_zero, List.set_cons_succ])
    refine PX.wpAnyY_one (i := 8) (o := ?_) (by kernel_rfl) ?_ (fun Kq hKq => ?_)
    rotate_left
    · simp only [List.getElem?_toArray, List.getElem?_cons_succ, List.getElem?_cons_zero]; rfl
    go_simp
    refine hKq.out _ _ (B5.out) (fun hHeld => ?_)
    clear hKq Kq
    (try simp only [Act.put, List.setIfInBounds_toArray, List.set_cons_zero, List.set_cons_succ])
    refine PX.wpAnyY_one (i := 9) (o := ?_) (by kernel_rfl) ?_ (fun Kq hKq => ?_)
    rotate_left
    · simp only [List.getElem?_toArray, List.getElem?_cons_succ, List.getElem?_cons_zero]; rfl
    go_simp
    refine hKq.out _ _ (B5.out) (fun hHeld => ?_)
    clear hKq Kq
    (try simp only [Act.put, List.setIfInBounds_toArray, List.set_cons_zero, List.set_cons_succ])
    refine PX.wpAnyY_free (i := 10) (o := ?_) (by kernel_rfl) (by kernel_rfl) ?_ (fun Kq hKq => ?_)
    rotate_left
    · simp only [List.getElem?_toArray, List.getElem?_cons_succ, List.getElem?_cons_zero]; rfl
    go_simp
    refine hKq.out _ _ ?_
    clear hKq Kq
    (try simp only [Act.put, List.setIfInBounds_toArray, List.set_cons_zero, List.set_cons_succ])
    refine PX.wpAnyY_done (by kernel_rfl) ?_ _
    refine NoPanic.normal ?_
    go_wp2_with fail
    go_ret
    exact ⟨by rw [← TS.out m IT.out.rd.byt]; rfl, (B1.out.trans (B5.out.mono B1.out.size))⟩
  · have hk : told m (DK.rcode D 1) x = false := by simp [told, h0]
    rw [hk]
    have e0 : ((DK.rcode D 1 : Int) == 0) = false := by rw [beq_eq_false_iff_ne]; omega
    clear h0 hk CF TS
    generalize DK.rcode D 1 = q at *
    go_enter Try.func47, Try.ntmps47
    go_wp2_with fail
    refine CR.out.mono ?_
    rintro e w1 ⟨ar, nr, cr, rfl, it, b1⟩
    have B1 := Lib.hid b1
    clear it b1
    go_wp2_with fail
    refine wp_region_noPanic ?_
    refine PX.wp_region_y (fun w' => Below w1.heap.size w1 w') [10] (by kernel_rfl) (Below.refl _ _).drew (fun hHeld => ?_)
    refine PX.wpAnyY_take (i := 0) (oi := ?_) (v := ?_) ?_ (by kernel_rfl) (by kernel_rfl) (by kernel_rfl) (by kernel_rfl) (by kernel_rfl) (fun _ _ _ h => h) (Or.inl ⟨?_, ?_⟩) (by assumption) ?_
    rotate_left 2
    · simp only [List.getElem?_toArray, List.getElem?_cons_succ, List.getElem?_cons_zero]; rfl
    · rfl
    · intro w hSw; (try dsimp only at hSw); go_simp <;> with_reducible rfl
    (try simp only [Act.put, List.setIfInBounds_toArray, List.set_cons_zero, List.set_cons_succ])
    refine PX.wpAnyY_take (i := 1) (oi := ?_) (v := ?_) ?_ (by kernel_rfl) (by kernel_rfl) (by kernel_rfl) (by kernel_rfl) (by kernel_rfl) (fun _ _ _ h => h) (Or.inl ⟨?_, ?_⟩) (by assumption) ?_
    rotate_left 2
    · simp only [List.getElem?_toArray, List.getElem?_cons_succ, List.getElem?_cons_zero]; rfl
    · rfl
    · intro w hSw; (try dsimp only at hSw); go_simp <;> with_reducible rfl
    (try simp only [Act.put, List.setIfInBounds_toArray, List.set_cons_zero, List.set_cons_succ])
    refine PX.wpAnyY_take (i := 2) (oi := ?_) (v := ?_) ?_ (by kernel_rfl) (by kernel_rfl) (by kernel_rfl) (by kernel_rfl) (by kernel_rfl) (fun _ _ _ h => h) (Or.inl ⟨?_, ?_⟩) (by assumption) ?_
    rotate_left 2
    · simp only [List.getElem?_toArray, List.getElem?_cons_succ, List.getElem?_cons_zero]; rfl
    · rfl
    · intro w hSw; (try dsimp only at hSw); go_simp <;> with_reducible rfl
    (try simp only [Act.put, List.setIfInBounds_toArray, List.set_cons_zero, List.set_cons_succ])
    refine PX.wpAnyY_take (i := 3) (oi := ?_) (v := undef) ?_ (by kernel_rfl) (by kernel_rfl) (by kernel_rfl) (by kernel_rfl) (by kernel_rfl) (fun _ _ _ h => h) (Or.inr ⟨?_, rfl⟩) (by assumption) ?_
    rotate_left
    · simp only [List.getElem?_toArray, List.getElem?_cons_succ, List.getElem?_cons_zero]; rfl
    · rfl
    (try simp only [Act.put, List.setIfInBounds_toArray, List.set_cons_zero, List.set_cons_succ])
    refine PX.wpAnyY_take (i := 4) (oi := ?_) (v := undef) ?_ (by kernel_rfl) (by kernel_rfl) (by kernel_rfl) (by kernel_rfl) (by kernel_rfl) (fun _ _ _ h => h) (Or.inr ⟨?_, rfl⟩) (by assumption) ?_
    rotate_left
    · simp only [List.getElem?_toArray, List.getElem?_cons_succ, List.getElem?_cons_zero]; rfl
    · rfl
    (try simp only [Act.put, List.setIfInBounds_toArray, List.set_cons_zero, List.set_cons_succ])
    refine PX.wpAnyY_take (i := 5) (oi := ?_) (v := undef) ?_ (by kernel_rfl) (by kernel_rfl) (by kernel_rfl) (by kernel_rfl) (by kernel_rfl) (fun _ _ _ h => h) (Or.inr ⟨?_, rfl⟩) (by assumption) ?_
    rotate_left
    · simp only [List.getElem?_toArray, List.getElem?_cons_succ, List.getElem?_cons_zero]; rfl
    · rfl
    (try simp only [Act.put, List.setIfInBounds_toArray, List.set_cons_zero, List.set_cons_succ])
    refine PX.wpAnyY_take (i := 6) (oi := ?_) (v := undef) ?_ (by kernel_rfl) (by kernel_rfl) (by kernel_rfl) (by kernel_rfl) (by kernel_rfl) (fun _ _ _ h => h) (Or.inr ⟨?_, rfl⟩) (by assumption) ?_
    rotate_left
    · simp only [List.getElem?_toArray, List.getElem?_cons_succ, List.getElem?_cons_zero]; rfl
    · rfl
    (try simp only [Act.put, List.setIfInBounds_toArray, List.set_cons_zero, List.set_cons_succ])
    refine PX.wpAnyY_take (i := 7) (oi := ?_) (v := undef) ?_ (by kernel_rfl) (by kernel_rfl) (by kernel_rfl) (by kernel_rfl) (by kernel_rfl) (fun _ _ _ h => h) (Or.inr ⟨?_, rfl⟩) (by assumption) ?_
    rotate_left
    · simp only [List.getElem?_toArray, List.getElem?_cons_succ, List.getElem?_cons_zero]; rfl
    · rfl
    (try simp only [Act.put, List.setIfInBounds_toArray, List.set_cons_zero, List.set_cons_succ])
    refine PX.wpAnyY_take (i := 8) (oi := ?_) (v := undef) ?_ (by kernel_rfl) (by kernel_rfl) (by kernel_rfl) (by kernel_rfl) (by kernel_rfl) (fun _ _ _ h => h) (Or.inr ⟨?_, rfl⟩) (by assumption) ?_
    rotate_left
    · simp only [List.getElem?_toArray, List.getElem?_cons_succ, List.getElem?_cons_zero]; rfl
    · rfl
    (try simp only [Act.put, List.setIfInBounds_toArray, List.set_cons_zero, List.set_cons_succ])
    refine PX.wpAnyY_one (i := 9) (o := ?_) (by kernel_rfl) ?_ (fun Kq hKq => ?_)
    rotate_left
    · simp only [List.getElem?_toArray, List.getElem?_cons_succ, List.getElem?_cons_zero]; rfl
    go_simp
    refine hKq.out _ _ (by assumption) (fun hHeld => ?_)
    clear hKq Kq
    (try simp only [Act.put, List.setIfInBounds_toArray, List.set_cons_zero, List.set_cons_succ])
    refine PX.wpAnyY_free (i := 10) (o := ?_) (by kernel_rfl) (by kernel_rfl) ?_ (fun Kq hKq => ?_)
    rotate_left
    · simp only [List.getElem?_toArray, List.getElem?_cons_succ, List.getElem?_cons_zero]; rfl
    go_simp
    refine hKq.out _ _ ?_
    clear hKq Kq
    (try simp only [Act.put, List.setIfInBounds_toArray, List.set_cons_zero, List.set_cons_succ])
    refine PX.wpAnyY_done (by kernel_rfl) ?_ _
    refine NoPanic.normal ?_
    go_wp2_with fail
    go_ret
    exact ⟨rfl, B1.out.drew⟩

set_option maxHeartbeats 1000000 in
theorem two_any (w : World) : Calls Try.prog 11 #[] w (NewDv w [DK.fresh 2, DK.fresh 2]) := by
  have hd0 : newDev 2 = DK.fresh 2 := rfl
  have hc0 : newCode 2 = 0 := rfl
  have CN : Hid (∀ w1, Calls Try.prog 35 #[.int .i64 2] w1 (NewDev w1 (DK.fresh 2) 0)) := fun w1 => by
    have := new_any 2 w1; rw [hd0, hc0] at this; exact this
  have e4 : (DK.fresh 2).dead = false := rfl
  clear hd0 hc0
  generalize DK.fresh 2 = D0 at *
  go_enter Try.func11, Try.ntmps11
  go_wp2_with fail
  refine (CN.out _).mono ?_
  intro e w1 hn
  obtain ⟨a1, n1, c1, a1', n1', c1', rfl, od1, at1, b1⟩ := hn.open
  rw [e4]
  have BX1 := Lib.hid (Bx.new w1 [.slice a1 n1 c1, .slice a1' n1' c1', .bool false] 37)
  have hb1 : Below w1.heap.size w1 (w1.alloc (.cells [Value.slice a1 n1 c1, .slice a1' n1' c1', .bool false].toArray 37)) := (Below.refl _ _).alloc (Nat.le_refl _) _
  have AT1 := Lib.hid (at1.here hb1)
  have B1 := Lib.hid (thence b1 hb1 (Nat.le_refl _))
  clear hn at1 b1 od1 hb1
  go_wp2_with fail
  refine (CN.out _).mono ?_
  intro e w2 hn
  obtain ⟨a2, n2, c2, a2', n2', c2', rfl, od2, at2, b2⟩ := hn.open
  rw [e4]
  have BX2 := Lib.hid (Bx.new w2 [.slice a2 n2 c2, .slice a2' n2' c2', .bool false] 37)
  have hb2 : Below w2.heap.size w2 (w2.alloc (.cells [Value.slice a2 n2 c2, .slice a2' n2' c2', .bool false].toArray 37)) := (Below.refl _ _).alloc (Nat.le_refl _) _
  have b3 := thence b2 hb2 (Nat.le_refl _)
  have AT2 := Lib.hid (at2.here hb2)
  have AT1 := Lib.hid (AT1.out.here b3)
  have B2 := Lib.hid (thence B1.out b3 (Nat.le_refl _))
  have BX1 := Lib.hid (BX1.out.here b3)
  clear hn at2 b2 od2 b3 hb2
  obtain ⟨x0, x1, x2⟩ := BX1.out.three
  obtain ⟨y0, y1, y2⟩ := BX2.out.three
  go_wp2_with fail
  have bb : Below (w2.alloc (.cells #[.slice a2 n2 c2, .slice a2' n2' c2', .bool false] 37)).heap.size (w2.alloc (.cells #[.slice a2 n2 c2, .slice a2' n2' c2', .bool false] 37)) ((w2.alloc (.cells #[.slice a2 n2 c2, .slice a2' n2' c2', .bool false] 37)).alloc (.cells #[.slice a1 n1 c1, .slice a1' n1' c1', .bool false, .slice a2 n2 c2, .slice a2' n2' c2', .bool false] 37)) := (Below.refl _ _).alloc (Nat.le_refl _) _
  have RG := Rg.lit (K := kDn) [⟨a1, n1, c1, a1', n1', c1', D0⟩, ⟨a2, n2, c2, a2', n2', c2', D0⟩] (w2.alloc (.cells #[.slice a2 n2 c2, .slice a2' n2' c2', .bool false] 37)) 37 (by simp) (fun x hx => by
    simp only [List.mem_cons, List.not_mem_nil, or_false] at hx
    rcases hx with rfl | rfl
    · exact AT1.out.inn
    · exact AT2.out.inn)
  rw [show (kDn.row [⟨a1, n1, c1, a1', n1', c1', D0⟩, ⟨a2, n2, c2, a2', n2', c2', D0⟩]).toArray = #[.slice a1 n1 c1, .slice a1' n1' c1', .bool false, .slice a2 n2 c2, .slice a2' n2' c2', .bool false] by
    show #[Value.slice a1 n1 c1, .slice a1' n1' c1', .bool D0.dead, .slice a2 n2 c2, .slice a2' n2' c2', .bool D0.dead] = _
    rw [e4]] at RG
  have hz : (w2.alloc (.cells #[.slice a2 n2 c2, .slice a2' n2' c2', .bool false] 37)).heap.size = w2.heap.size + 1 := by simp
  have RG := Lib.hid RG
  rw [hz] at RG
  have BF := Lib.hid (thence B2.out bb (Nat.le_refl _))
  clear bb hz
  go_ret
  exact ⟨_, 2, 2, _, rfl, RG.out, rfl, BF.out⟩

def someActs : List AK.Ac := [⟨0, 1, 1, List.replicate 128 120⟩, ⟨0, 3, 0, []⟩]
set_option maxHeartbeats 1000000 in
theorem some_any (w : World) : Calls Try.prog 12 #[] w (NewAs w someActs) := by
  have CF := Lib.hid (full5_rd 120 (by omega) w)
  unfold someActs
  generalize List.replicate 128 120 = R at *
  go_enter Try.func12, Try.ntmps12
  go_wp2_with fail
  refine CF.out.mono ?_
  rintro e w1 ⟨g, rfl, hg, r1, b1⟩
  have R1 := Lib.hid r1
  have B1 := Lib.hid b1
  clear r1 b1 hg
  go_wp2_with fail
  have RG := Lib.hid (Rg.lit (K := kAx) [⟨0, 1, 1, ⟨some ⟨g, 0, none⟩, 128, 128, R⟩⟩, ⟨0, 3, 0, ⟨none, 0, 0, []⟩⟩] w1 33 (by simp) (fun x hx => by
    simp only [List.mem_cons, List.not_mem_nil, or_false] at hx
    rcases hx with rfl | rfl
    · exact ⟨R1.out.inn, by show 1 < 256; omega⟩
    · exact ⟨rdI_nil _ _ _, by show 3 < 256; omega⟩))
  have BF := Lib.hid (B1.out.alloc B1.out.size (.cells #[.int .i64 0, .int .u8 1, .int .i64 1, .slice (some ⟨g, 0, none⟩) 128 128, .int .i64 0, .int .u8 3, .int .i64 0, .slice none 0 0] 33))
  go_ret
  exact ⟨_, 2, 2, _, rfl, RG.out, rfl, BF.out⟩
end Go.Proofs.Ytnhfkfihlkbkfaa.PW
