/-
  The document's own answers of layer 2, and the walk of PackDoes.
-/
import Derived.Test.YtbdhkpkokdnldaaPackLaws
namespace Go.Proofs.Ytbdhkpkokdnldaa.PW
open Go.RowKit
set_option linter.unusedVariables false

theorem refblock_yes (a : Option Addr) (len cap : Nat) (l : List Nat) (w : World) {B : Nat} (hr : Rd B w a len cap l) (h : l.length = 0 ∨ l.length = 128) :
    Calls Try.prog 18 #[.slice a len cap] w fun e w' => e = .returned (.bool true) ∧ w = w' := by
  obtain rfl := hr.long
  clear hr
  rcases h with h | h
  · rw [h]
    go_enter Try.func18, Try.ntmps18
    go_wp2
    go_ret
    exact ⟨rfl, rfl⟩
  · rw [h]
    go_enter Try.func18, Try.ntmps18
    go_wp2
    go_ret
    exact ⟨rfl, rfl⟩
theorem refblock_no (a : Option Addr) (len cap : Nat) (l : List Nat) (w : World) {B : Nat} (hr : Rd B w a len cap l) (h : l.length ≠ 0) (h1 : l.length ≠ 128) :
    Calls Try.prog 18 #[.slice a len cap] w fun e w' => e = .returned (.bool false) ∧ w = w' := by
  obtain rfl := hr.long
  have hm := hr.small
  have hf := hr.fits
  unfold maxLen at hm
  have e0 : ((l.length : Int) == 0) = false := by rw [beq_eq_false_iff_ne]; omega
  have e1 : ((l.length : Int) == 128) = false := by rw [beq_eq_false_iff_ne]; omega
  clear hr
  generalize l.length = n at *
  go_enter Try.func18, Try.ntmps18
  go_wp2
  go_ret
  exact ⟨rfl, rfl⟩
theorem reffits_yes (p s : Int) (w : World) (h1 : 1 ≤ s) (h2 : s ≤ 4) (h3 : 0 ≤ p) (h4 : p ≤ 128 - s) :
    Calls Try.prog 19 #[.int .i64 p, .int .i64 s] w fun e w' => e = .returned (.bool true) ∧ w = w' := by
  go_enter Try.func19, Try.ntmps19
  go_wp2
  go_ret
  exact ⟨by first | rfl | (simp; omega), rfl⟩
theorem reffits_no (p s : Int) (w : World) (h : s < 1 ∨ 4 < s ∨ p < 0 ∨ 128 - s < p) :
    Calls Try.prog 19 #[.int .i64 p, .int .i64 s] w fun e w' => e = .returned (.bool false) ∧ w = w' := by
  have h1' : s < 1 ∨ (1 ≤ s ∧ 4 < s) ∨ (1 ≤ s ∧ s ≤ 4 ∧ p < 0) ∨ (1 ≤ s ∧ s ≤ 4 ∧ 0 ≤ p ∧ 128 - s < p) := by omega
  clear h
  rcases h1' with h1 | ⟨h1, h2⟩ | ⟨h1, h2, h3⟩ | ⟨h1, h2, h3, h4⟩
  all_goals
    go_enter Try.func19, Try.ntmps19
    go_wp2
    go_ret
    exact ⟨by first | rfl | (simp; omega), rfl⟩

theorem refroom_any (s R : Nat) (w : World) (h : s ≤ 4) (hR : R = 256 ^ s) :
    Calls Try.prog 20 #[.int .i64 s] w fun e w' => e = .returned (.int .i64 R) ∧ w = w' := by
  have HR := Lib.hid hR
  clear hR
  go_enter Try.func20, Try.ntmps20
  go_wp2
  go_loop [3, 4] (fun v i => ∃ k : Nat, k ≤ s ∧ i = .int .i64 k ∧ v = .int .i64 (256 ^ k : Nat)) (fun _ i => s - (intOf i).toNat)
  case atStart => exact ⟨0, by omega, rfl, rfl⟩
  case round =>
    obtain ⟨k, hk, rfl, rfl⟩ := hrel
    by_cases hlt : k < s
    · have hp : 256 ^ k ≤ 16777216 := by
        have := Nat.pow_le_pow_right (n := 256) (by decide) (show k ≤ 3 by omega)
        simpa using this
      have hs : 256 ^ (k + 1) = 256 ^ k * 256 := Nat.pow_succ _ _
      have Hs := Lib.hid hs
      clear hs
      generalize 256 ^ k = x at *
      go_wp2
      go_round
      case rel => exact ⟨k + 1, by omega, by go_num, by rw [Hs.out]; go_num⟩
      case measure => simp [intOf]; omega
    · obtain rfl : k = s := by omega
      rw [← HR.out]
      go_wp2
      go_ret
      exact ⟨rfl, rfl⟩

theorem refwhole_any (a : Option Addr) (len cap : Nat) (l : List Nat) (w : World) (hl : l.length ≤ 128) (hr : Rd w.heap.size w a len cap l) :
    Calls Try.prog 23 #[.slice a len cap] w fun e w' => ∃ g, e = .returned (.slice (some ⟨g, 0, none⟩) 128 128) ∧ w.heap.size ≤ g ∧ Blk w' g (PK.wh l) ∧ Below w.heap.size w w' := by
  obtain rfl := hr.long
  obtain ⟨Z, HZ, HZl, hz⟩ := make128'
  go_enter Try.func23, Try.ntmps23
  go_wp2
  have hblk : Blk (w.alloc (.cells (Z.map bv).toArray 5)) w.heap.size (PK.wk l 0) := by rw [PK.wk_zero, ← HZ.out]; exact Blk.alloc w Z _
  have hbel : Below w.heap.size w (w.alloc (.cells (Z.map bv).toArray 5)) := (Below.refl _ w).alloc (Nat.le_refl _) _
  have hg : w.heap.size ≤ w.heap.size := Nat.le_refl _
  generalize w.alloc (.cells (Z.map bv).toArray 5) = w1 at *
  generalize hgB : (w.heap.size) = g at hblk hg ⊢
  have HgB := Lib.hid hgB
  clear hgB hz
  go_loopw [4] (fun i wr => ∃ k : Nat, k ≤ l.length ∧ i = .int .i64 k ∧ Blk wr g (PK.wk l k) ∧ Below w.heap.size w wr) (fun i _ => l.length - (intOf i).toNat)
  case atStart => exact ⟨0, by omega, rfl, hblk, hbel⟩
  case round =>
    obtain ⟨k, hk, rfl, hblk, hbel⟩ := hrel
    by_cases hlt : k < l.length
    · have hr1 := hr.below hbel
      obtain ⟨b, off, rfl, hB, hcc⟩ := hr1.cells (by intro e; subst e; simp at hlt)
      have f0 := hcc k hlt
      have f1 := hblk.cell k (by rw [PK.wk_length l k hk (by omega)]; omega)
      have f2 := hblk.frozen k
      have hs := hblk.set k (l.getD k 0)
      rw [PK.wk_step l k hlt hl] at hs
      have hb' : Below w.heap.size w (wr.setCell ⟨g, k, none⟩ (.int .u8 (l.getD k 0 : Nat))) := hbel.setCell (by show w.heap.size ≤ g; rw [HgB.out]; exact Nat.le_refl _) _
      have Hs := Lib.hid hs
      have Hb := Lib.hid hb'
      clear hs hb' hblk hbel hcc hr1
      generalize l.getD k 0 = x at *
      go_wp2
      go_roundw
      case rel => exact ⟨k + 1, by omega, by go_num, Hs.out, Hb.out⟩
      case measure => simp [intOf]; omega
    · obtain rfl : k = l.length := by omega
      go_wp2
      go_ret
      rw [PK.wk_all] at hblk
      exact ⟨g, rfl, by rw [HgB.out]; exact Nat.le_refl _, hblk, hbel⟩

set_option maxHeartbeats 400000 in
theorem refwith_any (a : Option Addr) (len cap : Nat) (l : List Nat) (p s n : Nat) (w : World) (hr : Rd w.heap.size w a len cap l) (h : May l p s) (h1 : n < 256 ^ s) :
    Calls Try.prog 21 #[.slice a len cap, .int .i64 p, .int .i64 s, .int .i64 n] w fun e w' => ∃ g, e = .returned (.slice (some ⟨g, 0, none⟩) 128 128) ∧ w.heap.size ≤ g ∧ Blk w' g (PK.pk (PK.wh l) p n s) ∧ Below w.heap.size w w' := by
  obtain ⟨h0, h2, h3, h4, h5⟩ := h
  have hnb : n ≤ 4294967295 := by
    have := Nat.pow_le_pow_right (n := 256) (by decide) (show s ≤ 4 by omega)
    omega
  have hwl : (PK.wh l).length = 128 := PK.wh_length (by omega)
  have Hwl := Lib.hid hwl
  have Hnb := Lib.hid hnb
  have hw := refwhole_any a len cap l w (by omega) hr
  have HW := Lib.hid hw
  clear hwl hnb h1 hw
  generalize PK.wh l = m at *
  go_enter Try.func21, Try.ntmps21
  go_wp2_with fail
  refine HW.out.mono ?_
  rintro e w1 ⟨g, rfl, hg, hblk, hbel⟩
  go_wp2_with fail
  go_loopw [3, 10] (fun v i wr => ∃ k : Nat, k ≤ s ∧ i = .int .i64 k ∧ v = .int .i64 (n / 256 ^ k : Nat) ∧ Blk wr g (PK.pk m p n k) ∧ Below w.heap.size w wr) (fun _ i _ => s - (intOf i).toNat)
  case atStart => exact ⟨0, by omega, rfl, by simp, hblk, hbel⟩
  case round =>
    obtain ⟨k, hk, rfl, rfl, hblk, hbel⟩ := hrel
    by_cases hlt : k < s
    · have hlen := PK.pk_length m p n k
      have f1 := hblk.cell (p + k) (by rw [hlen, Hwl.out]; omega)
      have f2 := hblk.frozen (p + k)
      have hx : n / 256 ^ k ≤ 4294967295 := Nat.le_trans (Nat.div_le_self _ _) Hnb.out
      have hs := hblk.set (p + k) (n / 256 ^ k % 256)
      have hs' : Blk (wr.setCell ⟨g, p + k, none⟩ (.int .u8 ((n / 256 ^ k % 256 : Nat) : Int))) g (PK.pk m p n (k + 1)) := hs
      have hb' : Below w.heap.size w (wr.setCell ⟨g, p + k, none⟩ (.int .u8 ((n / 256 ^ k % 256 : Nat) : Int))) := hbel.setCell hg _
      have hd : n / 256 ^ k / 256 = n / 256 ^ (k + 1) := by rw [Nat.div_div_eq_div_mul, Nat.pow_succ]
      have Hd := Lib.hid hd
      have HX := Lib.hid hx
      have Hs := Lib.hid hs'
      have Hb := Lib.hid hb'
      clear hs hs' hb' hblk hbel hlen hd hx
      generalize n / 256 ^ k = x at *
      have e : IntKind.u8.wrap ((x : Int) % 256) = ((x % 256 : Nat) : Int) := by
        rw [IntKind.wrap_u8']; omega
      have hx0 : (0 : Int) ≤ x := by omega
      generalize hy : x % 256 = y at *
      have Hy := Lib.hid hy
      clear hy
      go_wp2
      go_roundw
      case rel => exact ⟨k + 1, by omega, by go_num, by rw [← Hd.out]; have := HX.out; simp; exact IntWalk.wrap64_in _ (by omega), Hs.out, Hb.out⟩
      case measure => simp [intOf]; omega
    · obtain rfl : k = s := by omega
      generalize n / 256 ^ k = x at *
      go_wp2
      go_ret
      exact ⟨g, rfl, hg, hblk, hbel⟩

set_option maxHeartbeats 400000 in
theorem refat_any (a : Option Addr) (len cap : Nat) (l : List Nat) (p s T : Nat) (w : World) (hr : Rd w.heap.size w a len cap l) (h : May l p s) (hT : T = PK.tv (PK.wh l) p s) :
    Calls Try.prog 22 #[.slice a len cap, .int .i64 p, .int .i64 s] w fun e w' => e = .returned (.int .i64 T) ∧ Below w.heap.size w w' := by
  obtain ⟨h0, h2, h3, h4, h5⟩ := h
  have hwl : (PK.wh l).length = 128 := PK.wh_length (by omega)
  have hwb : Bytes (PK.wh l) := PK.wh_bytes hr.byt
  have hTl : T ≤ 4294967295 := by
    have := PK.tv_lt hwb p s
    have := Nat.pow_le_pow_right (n := 256) (by decide) (show s ≤ 4 by omega)
    omega
  have Hwl := Lib.hid hwl
  have Hwb := Lib.hid hwb
  have HT := Lib.hid hT
  have HTl := Lib.hid hTl
  have hw := refwhole_any a len cap l w (by omega) hr
  have HW := Lib.hid hw
  clear hwl hwb hw hT hTl
  generalize PK.wh l = m at *
  go_enter Try.func22, Try.ntmps22
  go_wp2_with fail
  refine HW.out.mono ?_
  rintro e w1 ⟨g, rfl, hg, hblk, hbel⟩
  go_wp2_with fail
  go_loop [8, 9] (fun v i => ∃ j x : Nat, j ≤ s ∧ i = .int .i64 ((j : Int) - 1) ∧ v = .int .i64 x ∧ PK.tv m p j + x * 256 ^ j = T) (fun _ i => (intOf i + 1).toNat)
  case atStart => exact ⟨s, 0, by omega, rfl, rfl, by rw [Nat.zero_mul, Nat.add_zero, HT.out]⟩
  case round =>
    obtain ⟨j, x, hj, rfl, rfl, hx⟩ := hrel
    by_cases h0' : j = 0
    · subst h0'
      have hxT : x = T := by simpa [PK.tv] using hx
      subst hxT
      clear hx
      go_wp2
      go_ret
      exact ⟨rfl, hbel⟩
    · obtain ⟨i, rfl⟩ : ∃ i, j = i + 1 := ⟨j - 1, by omega⟩
      have f1 := hblk.cell (p + i) (by rw [Hwl.out]; omega)
      have hstep := PK.tv_top m p i x T hx
      have hle := PK.le_top hstep
      have hle' : x * 256 + m.getD (p + i) 0 ≤ 4294967295 := Nat.le_trans hle HTl.out
      have Hstep := Lib.hid hstep
      clear hx hstep hle h0'
      generalize m.getD (p + i) 0 = y at *
      have e0 : ((i + 1 : Nat) : Int) - 1 = (i : Int) := by omega
      rw [e0]
      clear e0
      have hi0 : (0 : Int) ≤ i := by omega
      go_wp2
      go_round
      case rel => exact ⟨i, x * 256 + y, by omega, rfl, by go_num, Hstep.out⟩
      case measure => simp [intOf]

theorem refput_text (a : Option Addr) (len cap : Nat) (l : List Nat) (p s n : Int) (w : World) (hr : Rd w.heap.size w a len cap l) (h0 : l.length ≠ 0) (h1 : l.length ≠ 128) :
    Calls Try.prog 12 #[.slice a len cap, .int .i64 p, .int .i64 s, .int .i64 n] w fun e w' => e = .returned (.tuple #[.slice none 0 0, .int .i64 3]) ∧ w = w' := by
  go_enter Try.func12, Try.ntmps12
  go_wp2_with fail
  refine (refblock_no a len cap l w hr h0 h1).mono ?_
  rintro e w1 ⟨rfl, rfl⟩
  go_wp2
  go_ret2
  exact ⟨rfl, rfl⟩
theorem refput_place (a : Option Addr) (len cap : Nat) (l : List Nat) (p s n : Int) (w : World) (hr : Rd w.heap.size w a len cap l) (h0 : l.length = 0 ∨ l.length = 128) (h1 : s < 1 ∨ 4 < s ∨ p < 0 ∨ 128 - s < p) :
    Calls Try.prog 12 #[.slice a len cap, .int .i64 p, .int .i64 s, .int .i64 n] w fun e w' => e = .returned (.tuple #[.slice none 0 0, .int .i64 2]) ∧ w = w' := by
  have H0 := Lib.hid h0
  have H1 := Lib.hid h1
  clear h0 h1
  go_enter Try.func12, Try.ntmps12
  go_wp2_with fail
  refine (refblock_yes a len cap l w hr H0.out).mono ?_
  rintro e w1 ⟨rfl, rfl⟩
  go_wp2_with fail
  refine (reffits_no p s w H1.out).mono ?_
  rintro e w1 ⟨rfl, rfl⟩
  go_wp2
  go_ret2
  exact ⟨rfl, rfl⟩
theorem refput_num (a : Option Addr) (len cap : Nat) (l : List Nat) (p : Int) (s : Nat) (n : Int) (w : World) (hr : Rd w.heap.size w a len cap l) (h : May l p s) (h1 : n < 0 ∨ (256 : Int) ^ s ≤ n) :
    Calls Try.prog 12 #[.slice a len cap, .int .i64 p, .int .i64 s, .int .i64 n] w fun e w' => e = .returned (.tuple #[.slice none 0 0, .int .i64 2]) ∧ w = w' := by
  obtain ⟨h0, h2, h3, h4, h5⟩ := h
  obtain ⟨R, hR⟩ : ∃ R : Nat, R = 256 ^ s := ⟨_, rfl⟩
  have h1' : n < 0 ∨ (0 ≤ n ∧ (R : Int) ≤ n) := by
    rcases h1 with h1 | h1
    · exact .inl h1
    · refine .inr ⟨Int.le_trans (Int.pow_nonneg (by decide)) h1, ?_⟩
      rw [hR, Int.natCast_pow]; exact h1
  have HR := Lib.hid hR
  have H0 := Lib.hid h0
  clear hR h1 h0
  rcases h1' with h1 | ⟨h1, h1'⟩
  · go_enter Try.func12, Try.ntmps12
    go_wp2_with fail
    refine (refblock_yes a len cap l w hr H0.out).mono ?_
    rintro e w1 ⟨rfl, rfl⟩
    go_wp2_with fail
    refine (reffits_yes p s w h2 h3 h4 h5).mono ?_
    rintro e w1 ⟨rfl, rfl⟩
    go_wp2
    go_ret2
    exact ⟨rfl, rfl⟩
  · go_enter Try.func12, Try.ntmps12
    go_wp2_with fail
    refine (refblock_yes a len cap l w hr H0.out).mono ?_
    rintro e w1 ⟨rfl, rfl⟩
    go_wp2_with fail
    refine (reffits_yes p s w h2 h3 h4 h5).mono ?_
    rintro e w1 ⟨rfl, rfl⟩
    go_wp2_with (go_at_call 20; refine (refroom_any s R w (by omega) HR.out).mono ?_; rintro e w1 ⟨rfl, rfl⟩)
    go_ret2
    exact ⟨rfl, rfl⟩

theorem refput_ok (a : Option Addr) (len cap : Nat) (l : List Nat) (p s n : Nat) (w : World) (hr : Rd w.heap.size w a len cap l) (h : May l p s) (h1 : n < 256 ^ s) :
    Calls Try.prog 12 #[.slice a len cap, .int .i64 p, .int .i64 s, .int .i64 n] w (NewBlk w (PK.pk (PK.wh l) p n s)) := by
  have hw := refwith_any a len cap l p s n w hr h h1
  obtain ⟨h0, h2, h3, h4, h5⟩ := h
  obtain ⟨R, hR⟩ : ∃ R : Nat, R = 256 ^ s := ⟨_, rfl⟩
  rw [← hR] at h1
  have HR := Lib.hid hR
  have H0 := Lib.hid h0
  have HW := Lib.hid hw
  clear hR h0 hw
  generalize PK.pk (PK.wh l) p n s = m at *
  go_enter Try.func12, Try.ntmps12
  go_wp2_with fail
  refine (refblock_yes a len cap l w hr H0.out).mono ?_
  rintro e w1 ⟨rfl, rfl⟩
  go_wp2_with fail
  refine (reffits_yes p s w h2 h3 h4 h5).mono ?_
  rintro e w1 ⟨rfl, rfl⟩
  go_wp2_with fail
  refine (refroom_any s R w (by omega) HR.out).mono ?_
  rintro e w1 ⟨rfl, rfl⟩
  go_wp2_with fail
  refine HW.out.mono ?_
  rintro e w1 ⟨g, rfl, hg, hblk, hbel⟩
  go_wp2
  go_ret2
  exact ⟨g, rfl, hg, hblk, hbel⟩

theorem reftake_text (a : Option Addr) (len cap : Nat) (l : List Nat) (p s : Int) (w : World) (hr : Rd w.heap.size w a len cap l) (h0 : l.length ≠ 0) (h1 : l.length ≠ 128) :
    Calls Try.prog 13 #[.slice a len cap, .int .i64 p, .int .i64 s] w fun e w' => e = .returned (.tuple #[.int .i64 0, .int .i64 3]) ∧ w = w' := by
  go_enter Try.func13, Try.ntmps13
  go_wp2_with fail
  refine (refblock_no a len cap l w hr h0 h1).mono ?_
  rintro e w1 ⟨rfl, rfl⟩
  go_wp2
  go_ret2
  exact ⟨rfl, rfl⟩
theorem reftake_place (a : Option Addr) (len cap : Nat) (l : List Nat) (p s : Int) (w : World) (hr : Rd w.heap.size w a len cap l) (h0 : l.length = 0 ∨ l.length = 128) (h1 : s < 1 ∨ 4 < s ∨ p < 0 ∨ 128 - s < p) :
    Calls Try.prog 13 #[.slice a len cap, .int .i64 p, .int .i64 s] w fun e w' => e = .returned (.tuple #[.int .i64 0, .int .i64 2]) ∧ w = w' := by
  have H0 := Lib.hid h0
  have H1 := Lib.hid h1
  clear h0 h1
  go_enter Try.func13, Try.ntmps13
  go_wp2_with fail
  refine (refblock_yes a len cap l w hr H0.out).mono ?_
  rintro e w1 ⟨rfl, rfl⟩
  go_wp2_with fail
  refine (reffits_no p s w H1.out).mono ?_
  rintro e w1 ⟨rfl, rfl⟩
  go_wp2
  go_ret2
  exact ⟨rfl, rfl⟩
theorem reftake_ok (a : Option Addr) (len cap : Nat) (l : List Nat) (p s : Nat) (w : World) (hr : Rd w.heap.size w a len cap l) (h : May l p s) :
    Calls Try.prog 13 #[.slice a len cap, .int .i64 p, .int .i64 s] w fun e w' => e = .returned (.tuple #[.int .i64 (PK.tv (PK.wh l) p s : Nat), .int .i64 0]) ∧ Below w.heap.size w w' := by
  have hw := refat_any a len cap l p s _ w hr h rfl
  obtain ⟨h0, h2, h3, h4, h5⟩ := h
  have H0 := Lib.hid h0
  have HW := Lib.hid hw
  clear h0 hw
  generalize PK.tv (PK.wh l) p s = m at *
  go_enter Try.func13, Try.ntmps13
  go_wp2_with fail
  refine (refblock_yes a len cap l w hr H0.out).mono ?_
  rintro e w1 ⟨rfl, rfl⟩
  go_wp2_with fail
  refine (reffits_yes p s w h2 h3 h4 h5).mono ?_
  rintro e w1 ⟨rfl, rfl⟩
  go_wp2_with fail
  refine HW.out.mono ?_
  rintro e w1 ⟨rfl, hbel⟩
  go_wp2
  go_ret2
  exact ⟨rfl, hbel⟩

set_option maxHeartbeats 1000000 in
set_option maxRecDepth 100000 in
theorem does_text (a : Option Addr) (cap : Nat) (l : List Nat) (p s n : Int) (w : World) (hr : Rd w.heap.size w a l.length cap l) (hm : cap ≤ 2 ^ 63 - 1) (hf : l.length ≤ cap) (hb : ¬1000 < l.length) (h0 : l.length ≠ 0) (h1 : l.length ≠ 128) :
    Calls Try.prog 4 #[.slice a l.length cap, .int .i64 p, .int .i64 s, .int .i64 n] w fun e w' => e = .returned (.bool true) ∧ Below w.heap.size w w' := by
  obtain ⟨v2, w2, r2, o2, g2, k2⟩ := append_bytes w w.heap.size _ [] (own_nil _ _) w.heap.size a _ cap l hr (by simp; omega) (Nat.le_refl _)
  have b2 : Below w.heap.size w w2 := (Below.refl _ _).grown g2 (Nat.le_refl _) (by simp [Value.ownBlock])
  rw [List.nil_append] at o2
  obtain ⟨a2, cap2, rfl, q2⟩ := o2.rd hr.byt
  have hm2 := q2.small
  have hf2 := q2.fits
  unfold maxLen at hm2
  have hrb := (hr.below b2).mono b2.size
  have R2 := Lib.hid r2
  clear r2 o2 g2 k2
  have C1 := Lib.hid (put_text a2 _ cap2 l p s n w2 q2 h0 h1)
  have C2 := Lib.hid (refput_text a _ cap l p s n w2 hrb h0 h1)
  have C3 := Lib.hid (take_text a2 _ cap2 l p s w2 q2 h0 h1)
  have C4 := Lib.hid (reftake_text a _ cap l p s w2 hrb h0 h1)
  have s1 := text_is w2 _ _ _ _ q2
  have s2 := text_is w2 _ _ _ _ hrb
  have s3 := text_is w2 none 0 0 [] (rd_nil 0 w2)
  clear h0 h1
  go_enter Try.func4, Try.ntmps4
  go_wp2_with (first | (at_builtin; refine wpList_append_run rfl _ _ _ _ rfl R2.out ?_) | fail)
  refine C1.out.mono ?_
  rintro e w3 ⟨rfl, rfl⟩
  go_wp2_with fail
  refine C2.out.mono ?_
  rintro e w3 ⟨rfl, rfl⟩
  go_wp2_with fail
  refine C3.out.mono ?_
  rintro e w3 ⟨rfl, rfl⟩
  go_wp2_with fail
  refine C4.out.mono ?_
  rintro e w3 ⟨rfl, rfl⟩
  go_wp2
  go_loop [18] (fun i => i = .int .i64 0) (fun _ => 0)
  case atStart => rfl
  case round =>
    subst hrel
    go_wp2
    go_ret
    exact ⟨rfl, b2⟩

set_option maxHeartbeats 1000000 in
set_option maxRecDepth 100000 in
theorem does_place (a : Option Addr) (cap : Nat) (l : List Nat) (p s n : Int) (w : World) (hr : Rd w.heap.size w a l.length cap l) (hm : cap ≤ 2 ^ 63 - 1) (hf : l.length ≤ cap) (hb : ¬1000 < l.length) (h0 : l.length = 0 ∨ l.length = 128) (h1 : s < 1 ∨ 4 < s ∨ p < 0 ∨ 128 - s < p) :
    Calls Try.prog 4 #[.slice a l.length cap, .int .i64 p, .int .i64 s, .int .i64 n] w fun e w' => e = .returned (.bool true) ∧ Below w.heap.size w w' := by
  obtain ⟨v2, w2, r2, o2, g2, k2⟩ := append_bytes w w.heap.size _ [] (own_nil _ _) w.heap.size a _ cap l hr (by simp; omega) (Nat.le_refl _)
  have b2 : Below w.heap.size w w2 := (Below.refl _ _).grown g2 (Nat.le_refl _) (by simp [Value.ownBlock])
  rw [List.nil_append] at o2
  obtain ⟨a2, cap2, rfl, q2⟩ := o2.rd hr.byt
  have hm2 := q2.small
  have hf2 := q2.fits
  unfold maxLen at hm2
  have hrb := (hr.below b2).mono b2.size
  have R2 := Lib.hid r2
  clear r2 o2 g2 k2
  have C1 := Lib.hid (put_place a2 _ cap2 l p s n w2 q2 h0 h1)
  have C2 := Lib.hid (refput_place a _ cap l p s n w2 hrb h0 h1)
  have C3 := Lib.hid (take_place a2 _ cap2 l p s w2 q2 h0 h1)
  have C4 := Lib.hid (reftake_place a _ cap l p s w2 hrb h0 h1)
  have s1 := text_is w2 _ _ _ _ q2
  have s2 := text_is w2 _ _ _ _ hrb
  have s3 := text_is w2 none 0 0 [] (rd_nil 0 w2)
  clear h0 h1
  go_enter Try.func4, Try.ntmps4
  go_wp2_with (first | (at_builtin; refine wpList_append_run rfl _ _ _ _ rfl R2.out ?_) | fail)
  refine C1.out.mono ?_
  rintro e w3 ⟨rfl, rfl⟩
  go_wp2_with fail
  refine C2.out.mono ?_
  rintro e w3 ⟨rfl, rfl⟩
  go_wp2_with fail
  refine C3.out.mono ?_
  rintro e w3 ⟨rfl, rfl⟩
  go_wp2_with fail
  refine C4.out.mono ?_
  rintro e w3 ⟨rfl, rfl⟩
  go_wp2
  go_loop [18] (fun i => i = .int .i64 0) (fun _ => 0)
  case atStart => rfl
  case round =>
    subst hrel
    go_wp2
    go_ret
    exact ⟨rfl, b2⟩

set_option maxHeartbeats 2000000 in
set_option maxRecDepth 100000 in
theorem does_num (a : Option Addr) (cap : Nat) (l : List Nat) (p s : Nat) (n : Int) (w : World) (hr : Rd w.heap.size w a l.length cap l) (hm : cap ≤ 2 ^ 63 - 1) (hf : l.length ≤ cap) (hb : ¬1000 < l.length) (h : May l p s) (h1 : n < 0 ∨ (256 : Int) ^ s ≤ n) :
    Calls Try.prog 4 #[.slice a l.length cap, .int .i64 p, .int .i64 s, .int .i64 n] w fun e w' => e = .returned (.bool true) ∧ Below w.heap.size w w' := by
  obtain ⟨v2, w2, r2, o2, g2, k2⟩ := append_bytes w w.heap.size _ [] (own_nil _ _) w.heap.size a _ cap l hr (by simp; omega) (Nat.le_refl _)
  have b2 : Below w.heap.size w w2 := (Below.refl _ _).grown g2 (Nat.le_refl _) (by simp [Value.ownBlock])
  rw [List.nil_append] at o2
  obtain ⟨a2, cap2, rfl, q2⟩ := o2.rd hr.byt
  have hm2 := q2.small
  have hf2 := q2.fits
  unfold maxLen at hm2
  have hrb := (hr.below b2).mono b2.size
  have R2 := Lib.hid r2
  clear r2 o2 g2 k2
  have C1 := Lib.hid (put_num a2 _ cap2 l p s n w2 q2 h h1)
  have C2 := Lib.hid (refput_num a _ cap l p s n w2 hrb h h1)
  have C3 := Lib.hid (take_ok a2 _ cap2 l p s w2 q2 h)
  have C4 := Lib.hid (fun (w' : World) (hr : Rd w'.heap.size w' a l.length cap l) => reftake_ok a _ cap l p s w' hr h)
  have s3 := text_is w2 none 0 0 [] (rd_nil 0 w2)
  have Hr := Lib.hid hrb
  have Hq := Lib.hid q2
  clear h h1 hrb hr q2
  generalize PK.tv (PK.wh l) p s = v at *
  go_enter Try.func4, Try.ntmps4
  go_wp2_with (first | (at_builtin; refine wpList_append_run rfl _ _ _ _ rfl R2.out ?_) | fail)
  refine C1.out.mono ?_
  rintro e w3 ⟨rfl, rfl⟩
  go_wp2_with fail
  refine C2.out.mono ?_
  rintro e w3 ⟨rfl, rfl⟩
  go_wp2_with fail
  refine C3.out.mono ?_
  rintro e w3 ⟨rfl, hb3⟩
  go_wp2_with fail
  refine (C4.out _ ((Hr.out.below hb3).mono hb3.size)).mono ?_
  rintro e w4 ⟨rfl, hb4⟩
  have b4 := thence hb3 hb4 (Nat.le_refl _)
  have s1 := text_is w4 _ _ _ _ (Hq.out.below b4)
  have s2 := text_is w4 _ _ _ _ (Hr.out.below b4)
  have s3 := text_is w4 none 0 0 [] (rd_nil 0 w4)
  have b5 := thence b2 b4 (Nat.le_refl _)
  go_wp2
  go_loop [18] (fun i => i = .int .i64 0) (fun _ => 0)
  case atStart => rfl
  case round =>
    subst hrel
    go_wp2
    go_ret
    exact ⟨rfl, b5⟩

set_option maxHeartbeats 2000000 in
set_option maxRecDepth 100000 in
theorem does_good (a : Option Addr) (cap : Nat) (l : List Nat) (p s n : Nat) (w : World) (hr : Rd w.heap.size w a l.length cap l) (hm : cap ≤ 2 ^ 63 - 1) (hf : l.length ≤ cap) (hb : ¬1000 < l.length) (h : May l p s) (h1 : n < 256 ^ s) :
    Calls Try.prog 4 #[.slice a l.length cap, .int .i64 p, .int .i64 s, .int .i64 n] w fun e w' => e = .returned (.bool true) ∧ Below w.heap.size w w' := by
  obtain ⟨v2, w2, r2, o2, g2, k2⟩ := append_bytes w w.heap.size _ [] (own_nil _ _) w.heap.size a _ cap l hr (by simp; omega) (Nat.le_refl _)
  have b2 : Below w.heap.size w w2 := (Below.refl _ _).grown g2 (Nat.le_refl _) (by simp [Value.ownBlock])
  rw [List.nil_append] at o2
  obtain ⟨a2, cap2, rfl, q2⟩ := o2.rd hr.byt
  have hm2 := q2.small
  have hf2 := q2.fits
  unfold maxLen at hm2
  have hrb := (hr.below b2).mono b2.size
  have R2 := Lib.hid r2
  clear r2 o2 g2 k2
  have hwl : (PK.wh l).length = 128 := PK.wh_length (by have := h.blk; omega)
  have hwb : Bytes (PK.wh l) := PK.wh_bytes hr.byt
  have hml := pk_128 (PK.wh l) p n s hwl
  have hmb : Bytes (PK.pk (PK.wh l) p n s) := PK.pk_bytes hwb _ _ _
  have C1 := Lib.hid (put_ok a2 _ cap2 l p s n w2 q2 h h1)
  have C2 := Lib.hid (fun (w' : World) (hr : Rd w'.heap.size w' a l.length cap l) => refput_ok a _ cap l p s n w' hr h h1)
  have C3 := Lib.hid (fun (w' : World) (hr : Rd w'.heap.size w' a2 l.length cap2 l) => take_ok a2 _ cap2 l p s w' hr h)
  have C4 := Lib.hid (fun (w' : World) (hr : Rd w'.heap.size w' a l.length cap l) => reftake_ok a _ cap l p s w' hr h)
  have Hr := Lib.hid hrb
  have Hq := Lib.hid q2
  have Hml := Lib.hid hml
  have Hmb := Lib.hid hmb
  clear h h1 hrb hr q2 hwl hwb hml hmb
  generalize PK.pk (PK.wh l) p n s = m at *
  generalize PK.tv (PK.wh l) p s = v at *
  go_enter Try.func4, Try.ntmps4
  go_wp2_with (first | (at_builtin; refine wpList_append_run rfl _ _ _ _ rfl R2.out ?_) | fail)
  refine C1.out.mono ?_
  rintro e w3 ⟨g, rfl, hg, hblk, hb3⟩
  go_wp2_with fail
  refine (C2.out _ ((Hr.out.below hb3).mono hb3.size)).mono ?_
  rintro e w4 ⟨g4, rfl, hg4, hblk4, hb4⟩
  have b4 := thence hb3 hb4 (Nat.le_refl _)
  have hbx4 := hblk.below hb4 hblk.lt
  go_wp2_with fail
  refine (C3.out _ ((Hq.out.below b4).mono b4.size)).mono ?_
  rintro e w5 ⟨rfl, hb5⟩
  have b5 := thence b4 hb5 (Nat.le_refl _)
  have hbx5 := hbx4.below hb5 hbx4.lt
  have hby5 := hblk4.below hb5 hblk4.lt
  go_wp2_with fail
  refine (C4.out _ ((Hr.out.below b5).mono b5.size)).mono ?_
  rintro e w6 ⟨rfl, hb6⟩
  have b6 := thence b5 hb6 (Nat.le_refl _)
  have hbx6 := hbx5.below hb6 hbx5.lt
  have hby6 := hby5.below hb6 hby5.lt
  have s1 := text_is w6 _ _ _ _ (hbx6.rd Hml.out Hmb.out)
  have s2 := text_is w6 _ _ _ _ (hby6.rd Hml.out Hmb.out)
  clear hblk hblk4 hb3 hb4 hb5 hb6 hbx4 hbx5 hby5 b4 b5
  go_wp2
  clear s1 s2
  go_loopw [18] (fun i wr => ∃ (k : Nat) (m' : List Nat), k ≤ 128 ∧ i = .int .i64 k ∧ m'.length = 128 ∧ Bytes m' ∧ Blk wr g m' ∧ Below w2.heap.size w2 wr) (fun i _ => 128 - (intOf i).toNat)
  case atStart => exact ⟨0, m, by omega, rfl, Hml.out, Hmb.out, hbx6, b6⟩
  case round =>
    obtain ⟨k, m', hk, rfl, hm'l, hm'b, hblk, hbel⟩ := hrel
    by_cases hlt : k < 128
    · have f1 := hblk.cell k (by omega)
      have f2 := hblk.frozen k
      have hx := PK.getD_lt hm'b k
      have hs := hblk.set k ((m'.getD k 0 + 1) % 256)
      have hbs : Bytes (m'.set k ((m'.getD k 0 + 1) % 256)) := by
        intro x hx
        rcases List.mem_or_eq_of_mem_set hx with h | h
        · exact hm'b x h
        · omega
      have hls : (m'.set k ((m'.getD k 0 + 1) % 256)).length = 128 := by rw [List.length_set, hm'l]
      have hb' : Below w2.heap.size w2 (wr.setCell ⟨g, k, none⟩ (.int .u8 ((m'.getD k 0 + 1) % 256 : Nat))) := hbel.setCell hg _
      have Hs := Lib.hid hs
      have Hb := Lib.hid hb'
      have Hbs := Lib.hid hbs
      have Hls := Lib.hid hls
      clear hs hb' hbs hls hblk hbel hm'l hm'b
      generalize m'.getD k 0 = x at *
      have e : IntKind.u8.wrap ((x : Int) + 1) = (((x + 1) % 256 : Nat) : Int) := by
        rw [IntKind.wrap_u8']; omega
      generalize (x + 1) % 256 = y at *
      go_wp2
      go_roundw
      case rel => exact ⟨k + 1, _, by omega, by go_num, Hls.out, Hbs.out, Hs.out, Hb.out⟩
      case measure => simp [intOf]; omega
    · obtain rfl : k = 128 := by omega
      have s1 := text_is wr _ _ _ _ (Hq.out.below hbel)
      have s2 := text_is wr _ _ _ _ (Hr.out.below hbel)
      have bb := thence b2 hbel (Nat.le_refl _)
      go_wp2
      go_ret
      exact ⟨rfl, bb⟩

theorem does_walk (a : Option Addr) (len cap : Nat) (l : List Nat) (p s n : Int) (w : World) (hr : Rd w.heap.size w a len cap l) :
    Calls Try.prog 4 #[.slice a len cap, .int .i64 p, .int .i64 s, .int .i64 n] w fun e w' => e = .returned (.bool true) ∧ Below w.heap.size w w' := by
  obtain rfl := hr.long
  have hm := hr.small
  have hf := hr.fits
  unfold maxLen at hm
  by_cases hb : 1000 < l.length
  · go_enter Try.func4, Try.ntmps4
    go_wp2
    go_ret
    exact ⟨rfl, Below.refl _ _⟩
  · rcases ways l p s n with h | h | h | h
    · exact does_text a cap l p s n w hr hm hf hb h.1 h.2
    · exact does_place a cap l p s n w hr hm hf hb h.1 h.2
    · obtain ⟨s', rfl, h, h1⟩ := h
      obtain ⟨p', rfl⟩ := Int.eq_ofNat_of_zero_le h.p0
      exact does_num a cap l p' s' n w hr hm hf hb h h1
    · obtain ⟨p', s', n', rfl, rfl, rfl, h, h1⟩ := h
      exact does_good a cap l p' s' n' w hr hm hf hb h h1
end Go.Proofs.Ytbdhkpkokdnldaa.PW
