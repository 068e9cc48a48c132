/-
  Contracts of layer 2's functions.
-/
import Derived.Test.YtjdcnajppjamgaaBase
import Derived.Test.YtjdcnajppjamgaaBlock128
import Derived.Test.YtjdcnajppjamgaaPackMath
import Derived.RegionTactic
import Derived.ProofKit
namespace Go.Proofs.Ytjdcnajppjamgaa.PW
open Go.RowKit
set_option linter.unusedVariables false

theorem splice_noughts (l : List Nat) (N : Nat) (h : l.length ≤ N) : splice ((List.replicate N 0).map bv) 0 (l.map bv) = (l ++ List.replicate (N - l.length) 0).map bv := by
  unfold splice
  simp

theorem whole_any (a : Option Addr) (len cap : Nat) (l : List Nat) (w : World) (hl : l.length ≤ 128) (hr : Rd w.heap.size w a len cap l) :
    Calls Try.prog 36 #[.slice a len cap] w fun e w' => e = .returned (.agg ((PK.wh l).map bv).toArray) ∧ Below w.heap.size w w' := by
  obtain ⟨Z, HZ, hZl, hz⟩ := zero128'
  have HZl := Lib.hid hZl
  clear hZl
  obtain ⟨X, hX⟩ : ∃ X, X = l.map bv := ⟨_, rfl⟩
  obtain ⟨Y, hY⟩ : ∃ Y, Y = Z.map bv := ⟨_, rfl⟩
  have hlen := hr.long
  subst hlen
  have HX := Lib.hid hX
  have HY := Lib.hid hY
  rw [← hY] at hz
  clear hX hY
  have sz := zero128.2
  have hXs : X.length = l.length := by rw [HX.out]; simp
  have hYs : Y.length = 128 := by rw [HY.out]; simpa using HZl.out
  have hspl : (splice Y 0 X).toArray = ((PK.wh l).map bv).toArray := by
    rw [HX.out, HY.out, HZ.out, splice_noughts l 128 hl]; rfl
  have hspn : (splice Y 0 X).length = 128 := by rw [length_splice Y 0 X (by omega), hYs]
  have hone : ∀ v ∈ splice Y 0 X, v.oneCell' = true := by
    intro v hv
    have e : splice Y 0 X = (PK.wh l).map bv := by simpa using congrArg Array.toList hspl
    rw [e] at hv
    exact one_bv _ v hv
  have Hspl := Lib.hid hspl
  have Hspn := Lib.hid hspn
  have HXs := Lib.hid hXs
  have HYs := Lib.hid hYs
  have Hsz := Lib.hid sz
  have Hone := Lib.hid hone
  clear hspl hspn hXs hYs sz hone
  go_enter Try.func36, Try.ntmps36
  go_wp2_with (with_reducible refine wpList_copy_splice rfl (.tmp 4) (.tmp 5) _ _ rfl 5 Try.underlying22 (by kernel_rfl) _ _ _ _ _ _ rfl rfl (w.heap.size + 1) 0 Y 79 ?_ X ?_ ?_ ?_ ?_ (w.heap.size + 1) (w.alloc (.cells Y.toArray 79)) ?_ ?_ ?_)
  · exact heap_alloc2_new _ _ _
  · rw [HXs.out]; exact (Nat.min_eq_left hl).symm
  · intro h0
    show ∃ ad, a = some ad ∧ _
    cases a with
    | none =>
      have := (hr.nil rfl).1
      rw [HXs.out] at h0
      omega
    | some x =>
      refine ⟨x, rfl, fun j v hj => ?_⟩
      rw [HX.out] at hj
      exact (hr.below (((Below.refl _ w).alloc (Nat.le_refl _) _).alloc (by simp) _)).cellAt j v hj
  · rw [HXs.out, HYs.out]; omega
  · intro v hv
    rw [HX.out] at hv
    exact one_bv _ v hv
  · exact (Below.refl _ _).alloc (by simp) _
  · exact Nat.le_refl _
  · intro w2 HG hB
    have hg0 : w2.heap[w.heap.size]? = some (.cells Y.toArray 79 (0, 0)) := by
      rw [hB.block _ (Nat.lt_succ_self _)]; exact heap_alloc_new _ _
    have Hg0 := Lib.hid hg0
    have hbel : Below w.heap.size w w2 := ((Below.refl _ w).alloc (Nat.le_refl _) _).trans (hB.mono (Nat.le_succ _))
    clear hg0 hB hz
    go_wp2_with (first | (with_reducible refine wpList_load_row rfl 79 (.tmp 3) rfl (w.heap.size + 1) rfl 79 _ _ (.array 128 5) HG.out Try.underlying79 rfl (by rw [Hsz.out]; simp [Hspn.out]) ?_) | (with_reducible refine wpList_store_row rfl 79 (.tmp 2) (.tmp 7) rfl w.heap.size (splice Y 0 X).toArray rfl rfl 79 Y.toArray Hg0.out (by rw [Hsz.out]; simp [Hspn.out]) (by simp [Hspn.out, HYs.out]) (by rw [Array.all_eq_true_iff_forall_mem]; intro v hv; exact Hone.out v (by simpa using hv)) ?_))
    refine bodyPost_ret (v := .agg (splice Y 0 X).toArray) (results_cell_row rfl _ _ w.heap.size 79 _ (0, 0) (.array 128 5) rfl ?_ Try.underlying79 rfl (by rw [Hsz.out]; simp [Hspn.out])) rfl ⟨by rw [Hspl.out], ?_⟩
    · exact setRow_heap _ _ _ _ _ _ Hg0.out
    · exact below_setRow hbel (Nat.le_refl _) _

theorem check_text (a : Option Addr) (len cap : Nat) (p s : Int) (w : World) (h0 : len ≠ 0) (h1 : len ≠ 128) (hm : len ≤ maxLen) :
    Calls Try.prog 35 #[.slice a len cap, .int .i64 p, .int .i64 s] w fun e w' => e = .returned (.int .i64 3) ∧ w = w' := by
  unfold maxLen at hm
  have e0 : ((len : Int) != 0) = true := by rw [bne_iff_ne]; omega
  have e1 : ((len : Int) != 128) = true := by rw [bne_iff_ne]; omega
  go_enter Try.func35, Try.ntmps35
  go_wp2
  go_ret
  exact ⟨rfl, rfl⟩
theorem check_arg (a : Option Addr) (len cap : Nat) (p s : Int) (w : World) (h0 : len = 0 ∨ len = 128) (h1 : s < 1 ∨ 4 < s ∨ p < 0 ∨ 128 - s < p) :
    Calls Try.prog 35 #[.slice a len cap, .int .i64 p, .int .i64 s] w fun e w' => e = .returned (.int .i64 2) ∧ w = w' := by
  have HB := Lib.hid h1
  clear h1
  rcases h0 with rfl | rfl
  all_goals
    go_enter Try.func35, Try.ntmps35
    go_wp2
    all_goals first
      | (go_ret; exact ⟨rfl, rfl⟩)
      | (exfalso; have := HB.out; clear HB; (try simp at *); omega)
theorem check_ok (a : Option Addr) (len cap : Nat) (p s : Int) (w : World) (h0 : len = 0 ∨ len = 128) (h1 : 1 ≤ s) (h2 : s ≤ 4) (h3 : 0 ≤ p) (h4 : p ≤ 128 - s) :
    Calls Try.prog 35 #[.slice a len cap, .int .i64 p, .int .i64 s] w fun e w' => e = .returned (.int .i64 0) ∧ w = w' := by
  rcases h0 with rfl | rfl
  all_goals
    go_enter Try.func35, Try.ntmps35
    go_wp2
    all_goals first
      | (go_ret; exact ⟨rfl, rfl⟩)
      | (exfalso; simp at *; omega)

theorem fits_yes (n : Nat) (s : Nat) (w : World) (h1 : s ≤ 4) (h2 : n < 256 ^ s) :
    Calls Try.prog 55 #[.int .i64 n, .int .i64 s] w fun e w' => e = .returned (.bool true) ∧ w = w' := by
  have e : ((n : Int) / 2 ^ (8 * s) == 0) = true := by
    rw [PK.pow_256] at h2
    rw [beq_iff_eq]
    have : n / 2 ^ (8 * s) = 0 := Nat.div_eq_of_lt h2
    have := congrArg (Int.ofNat) this
    simpa using this
  clear h2
  go_enter Try.func55, Try.ntmps55
  go_wp2
  go_ret
  exact ⟨rfl, rfl⟩
theorem fits_big (n : Nat) (s : Nat) (w : World) (h1 : s ≤ 4) (h2 : 256 ^ s ≤ n) :
    Calls Try.prog 55 #[.int .i64 n, .int .i64 s] w fun e w' => e = .returned (.bool false) ∧ w = w' := by
  have e : ((n : Int) / 2 ^ (8 * s) == 0) = false := by
    rw [PK.pow_256] at h2
    rw [beq_eq_false_iff_ne]
    intro h
    have h3 : n / 2 ^ (8 * s) = 0 := by
      have : ((n / 2 ^ (8 * s) : Nat) : Int) = ((0 : Nat) : Int) := by simpa using h
      exact Int.natCast_inj.1 this
    have := Nat.div_pos h2 (Nat.two_pow_pos _)
    omega
  clear h2
  go_enter Try.func55, Try.ntmps55
  go_wp2
  go_ret
  exact ⟨rfl, rfl⟩
theorem fits_neg (n s : Int) (w : World) (h : n < 0) :
    Calls Try.prog 55 #[.int .i64 n, .int .i64 s] w fun e w' => e = .returned (.bool false) ∧ w = w' := by
  go_enter Try.func55, Try.ntmps55
  go_wp2
  go_ret
  exact ⟨rfl, rfl⟩

theorem nil_len {B : Nat} {w : World} {a : Option Addr} {len cap : Nat} {l : List Nat} (h : Rd B w a len cap l) : len = l.length := h.long

theorem put_text (a : Option Addr) (len cap : Nat) (l : List Nat) (p s n : Int) (w : World) (hr : Rd w.heap.size w a len cap l) (h0 : l.length ≠ 0) (h1 : l.length ≠ 128) :
    Calls Try.prog 33 #[.slice a len cap, .int .i64 p, .int .i64 s, .int .i64 n] w fun e w' => e = .returned (.tuple #[.slice none 0 0, .int .i64 3]) ∧ w = w' := by
  obtain rfl := hr.long
  have hm : l.length ≤ maxLen := by have := hr.small; have := hr.fits; omega
  go_enter Try.func33, Try.ntmps33
  go_wp2_with (go_at_call 35; refine (check_text _ _ _ _ _ _ (by omega) (by omega) hm).mono ?_; rintro e w1 ⟨rfl, rfl⟩)
  go_ret2
  exact ⟨rfl, rfl⟩

/-- What may be: a block, a size, a place, a number. -/
structure May (l : List Nat) (p s : Int) : Prop where
  blk : l.length = 0 ∨ l.length = 128
  s1 : 1 ≤ s
  s4 : s ≤ 4
  p0 : 0 ≤ p
  p1 : p ≤ 128 - s

theorem put_place (a : Option Addr) (len cap : Nat) (l : List Nat) (p s n : Int) (w : World) (hr : Rd w.heap.size w a len cap l) (h0 : l.length = 0 ∨ l.length = 128) (h1 : s < 1 ∨ 4 < s ∨ p < 0 ∨ 128 - s < p) :
    Calls Try.prog 33 #[.slice a len cap, .int .i64 p, .int .i64 s, .int .i64 n] w fun e w' => e = .returned (.tuple #[.slice none 0 0, .int .i64 2]) ∧ w = w' := by
  obtain rfl := hr.long
  have H1 := Lib.hid h1
  clear h1
  go_enter Try.func33, Try.ntmps33
  go_wp2_with (go_at_call 35; refine (check_arg _ _ _ _ _ _ (by omega) H1.out).mono ?_; rintro e w1 ⟨rfl, rfl⟩)
  go_ret2
  exact ⟨rfl, rfl⟩

theorem put_num (a : Option Addr) (len cap : Nat) (l : List Nat) (p : Int) (s : Nat) (n : Int) (w : World) (hr : Rd w.heap.size w a len cap l) (h : May l p s) (h1 : n < 0 ∨ (256 : Int) ^ s ≤ n) :
    Calls Try.prog 33 #[.slice a len cap, .int .i64 p, .int .i64 s, .int .i64 n] w fun e w' => e = .returned (.tuple #[.slice none 0 0, .int .i64 2]) ∧ w = w' := by
  obtain rfl := hr.long
  obtain ⟨h0, h2, h3, h4, h5⟩ := h
  have hf : ∀ w, Calls Try.prog 55 #[.int .i64 n, .int .i64 s] w fun e w' => e = .returned (.bool false) ∧ w = w' := by
    intro w
    rcases h1 with h1 | h1
    · exact fits_neg n s w h1
    · have : 0 ≤ n := by have : (0 : Int) ≤ 256 ^ s := Int.pow_nonneg (by decide); omega
      obtain ⟨m, rfl⟩ := Int.eq_ofNat_of_zero_le this
      exact fits_big m s w (by omega) (Int.ofNat_le.1 (by rw [Int.natCast_pow]; exact h1))
  have HF := Lib.hid hf
  clear h1 hf
  go_enter Try.func33, Try.ntmps33
  go_wp2_with (first | (go_at_call 35; refine (check_ok _ _ _ _ _ _ (by omega) h2 h3 h4 h5).mono ?_; rintro e w1 ⟨rfl, rfl⟩) | (go_at_call 55; refine (HF.out _).mono ?_; rintro e w1 ⟨rfl, rfl⟩))
  go_ret2
  exact ⟨rfl, rfl⟩

set_option maxHeartbeats 400000 in
theorem put_ok (a : Option Addr) (len cap : Nat) (l : List Nat) (p s n : Nat) (w : World) (hr : Rd w.heap.size w a len cap l) (h : May l p s) (h1 : n < 256 ^ s) :
    Calls Try.prog 33 #[.slice a len cap, .int .i64 p, .int .i64 s, .int .i64 n] w (NewBlk w (PK.pk (PK.wh l) p n s)) := by
  obtain rfl := hr.long
  obtain ⟨h0, h2, h3, h4, h5⟩ := h
  have hwl : (PK.wh l).length = 128 := PK.wh_length (by omega)
  have HF := Lib.hid (fun w => fits_yes n s w (by omega) h1)
  obtain ⟨Z, HZ, hZl, hz⟩ := zero128'
  have sz := zero128.2
  have HZl := Lib.hid hZl
  have Hsz := Lib.hid sz
  have Hwl := Lib.hid hwl
  clear hZl sz h1
  generalize hm : PK.wh l = m at *
  have hlen : l.length ≤ 128 := by omega
  have HW := Lib.hid (fun (w' : World) (hr : Rd w'.heap.size w' a l.length cap l) => by have := whole_any a l.length cap l w' hlen hr; rw [hm] at this; exact this)
  clear hm
  go_enter Try.func33, Try.ntmps33
  go_wp2_with (first | (go_at_call 35; refine (check_ok _ _ _ _ _ _ (by omega) h2 h3 h4 h5).mono ?_; rintro e w1 ⟨rfl, rfl⟩) | (go_at_call 55; refine (HF.out _).mono ?_; rintro e w1 ⟨rfl, rfl⟩)  | (go_at_call 36; refine (HW.out _ hr).mono ?_; rintro e w1 ⟨rfl, hb1⟩) | (with_reducible refine wpList_store_row rfl 79 (.tmp 11) (.tmp 25) rfl _ (m.map bv).toArray rfl rfl 79 (Z.map bv).toArray (heap_alloc_new _ _) (by rw [Hsz.out]; simp [Hwl.out]) (by simp [Hwl.out, HZl.out]) (by rw [Array.all_eq_true_iff_forall_mem]; intro v hv; exact one_bv _ v (by simpa using hv)) ?_; rw [World.setRow_alloc_new]))
  have hg : w.heap.size ≤ w1.heap.size := hb1.size
  have hblk : Blk (w1.alloc (.cells (m.map bv).toArray 79)) w1.heap.size (PK.pk m p n 0) := Blk.alloc w1 m _
  have hbel : Below w.heap.size w (w1.alloc (.cells (m.map bv).toArray 79)) := hb1.alloc hg _
  generalize w1.alloc (.cells (m.map bv).toArray 79) = w2 at *
  generalize w1.heap.size = g at *
  clear hb1 hz hwl
  go_loopw [27] (fun i wr => ∃ k : Nat, k ≤ s ∧ i = .int .i64 k ∧ Blk wr g (PK.pk m p n k) ∧ Below w.heap.size w wr) (fun i _ => s - (intOf i).toNat)
  case atStart => exact ⟨0, by omega, rfl, hblk, hbel⟩
  case round =>
    obtain ⟨k, hk, rfl, hblk, hbel⟩ := hrel
    by_cases hlt : k < s
    · have hlen := PK.pk_length m p n k
      have f1 := hblk.cell (p + k) (by rw [hlen, Hwl.out]; omega)
      have f2 := hblk.frozen (p + k)
      have e : IntKind.u8.wrap ((n : Int) / 2 ^ (8 * k)) = ((n / 256 ^ k % 256 : Nat) : Int) := by
        rw [← byte_of, PK.pow_256]; simp
      have hs := hblk.set (p + k) (n / 256 ^ k % 256)
      have hs' : Blk (wr.setCell ⟨g, p + k, none⟩ (.int .u8 ((n / 256 ^ k % 256 : Nat) : Int))) g (PK.pk m p n (k + 1)) := hs
      have hb' : Below w.heap.size w (wr.setCell ⟨g, p + k, none⟩ (.int .u8 ((n / 256 ^ k % 256 : Nat) : Int))) := hbel.setCell hg _
      have Hs := Lib.hid hs'
      have Hb := Lib.hid hb'
      clear hs hs' hb' hblk hbel hlen
      generalize n / 256 ^ k % 256 = x at *
      go_wp2
      go_roundw
      case rel => exact ⟨k + 1, by omega, by go_num, Hs.out, Hb.out⟩
      case measure => simp [intOf]; omega
    · obtain rfl : k = s := by omega
      go_wp2
      go_ret2
      exact ⟨g, rfl, hg, hblk, hbel⟩

theorem take_text (a : Option Addr) (len cap : Nat) (l : List Nat) (p s : Int) (w : World) (hr : Rd w.heap.size w a len cap l) (h0 : l.length ≠ 0) (h1 : l.length ≠ 128) :
    Calls Try.prog 21 #[.slice a len cap, .int .i64 p, .int .i64 s] w fun e w' => e = .returned (.tuple #[.int .i64 0, .int .i64 3]) ∧ w = w' := by
  obtain rfl := hr.long
  have hm : l.length ≤ maxLen := by have := hr.small; have := hr.fits; omega
  go_enter Try.func21, Try.ntmps21
  go_wp2_with (go_at_call 35; refine (check_text _ _ _ _ _ _ (by omega) (by omega) hm).mono ?_; rintro e w1 ⟨rfl, rfl⟩)
  go_ret2
  exact ⟨rfl, rfl⟩
theorem take_place (a : Option Addr) (len cap : Nat) (l : List Nat) (p s : Int) (w : World) (hr : Rd w.heap.size w a len cap l) (h0 : l.length = 0 ∨ l.length = 128) (h1 : s < 1 ∨ 4 < s ∨ p < 0 ∨ 128 - s < p) :
    Calls Try.prog 21 #[.slice a len cap, .int .i64 p, .int .i64 s] w fun e w' => e = .returned (.tuple #[.int .i64 0, .int .i64 2]) ∧ w = w' := by
  obtain rfl := hr.long
  have H1 := Lib.hid h1
  clear h1
  go_enter Try.func21, Try.ntmps21
  go_wp2_with (go_at_call 35; refine (check_arg _ _ _ _ _ _ (by omega) H1.out).mono ?_; rintro e w1 ⟨rfl, rfl⟩)
  go_ret2
  exact ⟨rfl, rfl⟩

set_option maxHeartbeats 400000 in
theorem take_ok (a : Option Addr) (len cap : Nat) (l : List Nat) (p s : Nat) (w : World) (hr : Rd w.heap.size w a len cap l) (h : May l p s) :
    Calls Try.prog 21 #[.slice a len cap, .int .i64 p, .int .i64 s] w fun e w' => e = .returned (.tuple #[.int .i64 (PK.tv (PK.wh l) p s : Nat), .int .i64 0]) ∧ Below w.heap.size w w' := by
  obtain rfl := hr.long
  obtain ⟨h0, h2, h3, h4, h5⟩ := h
  have hwl : (PK.wh l).length = 128 := PK.wh_length (by omega)
  have hwb : ∀ x ∈ PK.wh l, x < 256 := PK.wh_bytes hr.byt
  obtain ⟨Z, HZ, hZl, hz⟩ := zero128'
  have sz := zero128.2
  have HZl := Lib.hid hZl
  have Hsz := Lib.hid sz
  have Hwl := Lib.hid hwl
  have Hwb := Lib.hid hwb
  clear hZl sz hwb
  generalize hm : PK.wh l = m at *
  have hlen : l.length ≤ 128 := by omega
  have HW := Lib.hid (fun (w' : World) (hr : Rd w'.heap.size w' a l.length cap l) => by have := whole_any a l.length cap l w' hlen hr; rw [hm] at this; exact this)
  clear hm
  go_enter Try.func21, Try.ntmps21
  go_wp2_with (first | (go_at_call 35; refine (check_ok _ _ _ _ _ _ (by omega) h2 h3 h4 h5).mono ?_; rintro e w1 ⟨rfl, rfl⟩) | (go_at_call 36; refine (HW.out _ hr).mono ?_; rintro e w1 ⟨rfl, hb1⟩) | (with_reducible refine wpList_store_row rfl 79 (.tmp 9) (.tmp 20) rfl _ (m.map bv).toArray rfl rfl 79 (Z.map bv).toArray (heap_alloc_new _ _) (by rw [Hsz.out]; simp [Hwl.out]) (by simp [Hwl.out, HZl.out]) (by rw [Array.all_eq_true_iff_forall_mem]; intro v hv; exact one_bv _ v (by simpa using hv)) ?_; rw [World.setRow_alloc_new]))
  have hg : w.heap.size ≤ w1.heap.size := hb1.size
  have hblk : Blk (w1.alloc (.cells (m.map bv).toArray 79)) w1.heap.size m := Blk.alloc w1 m _
  have hbel : Below w.heap.size w (w1.alloc (.cells (m.map bv).toArray 79)) := hb1.alloc hg _
  generalize w1.alloc (.cells (m.map bv).toArray 79) = w2 at *
  generalize w1.heap.size = g at *
  clear hb1 hz hwl
  go_loop [10, 22] (fun v i => ∃ k : Nat, k ≤ s ∧ i = .int .i64 k ∧ v = .int .i64 (PK.tv m p k : Nat)) (fun _ i => s - (intOf i).toNat)
  case atStart => exact ⟨0, by omega, rfl, rfl⟩
  case round =>
    obtain ⟨k, hk, rfl, rfl⟩ := hrel
    by_cases hlt : k < s
    · have f1 := hblk.cell (p + k) (by rw [Hwl.out]; omega)
      have hv := PK.tv_lt Hwb.out p k
      have hx := PK.getD_lt Hwb.out (p + k)
      have hst : PK.tv m p (k + 1) = PK.tv m p k + m.getD (p + k) 0 * 256 ^ k := rfl
      generalize PK.tv m p k = v at *
      generalize m.getD (p + k) 0 = x at *
      have hst' := Lib.hid hst
      clear hst
      have hpk : 256 ^ k ≤ 16777216 := by
        have := Nat.pow_le_pow_right (n := 256) (by decide) (show k ≤ 3 by omega)
        simpa using this
      have hxp : x * 256 ^ k ≤ 255 * 256 ^ k := Nat.mul_le_mul_right _ (by omega)
      have e : bits .or .i64 (v : Int) (wrap64 ((x : Int) * 2 ^ (8 * k))) = ((v + x * 256 ^ k : Nat) : Int) := by
        have e1 : (x : Int) * 2 ^ (8 * k) = ((x <<< (8 * k) : Nat) : Int) := by
          rw [Nat.shiftLeft_eq, Int.natCast_mul, Int.natCast_pow]; rfl
        have e2 : x <<< (8 * k) = x * 256 ^ k := by rw [Nat.shiftLeft_eq, PK.pow_256]
        rw [e1, IntWalk.wrap64_in _ (by rw [e2]; omega), or64 _ _ (by omega) (by rw [e2]; omega), PK.or_step hv]
      have E := Lib.hid e
      clear e hpk hxp
      go_wp2
      go_round
      case rel => exact ⟨k + 1, by omega, by go_num, by rw [E.out, hst'.out]⟩
      case measure => simp [intOf]; omega
    · obtain rfl : k = s := by omega
      go_wp2
      go_ret2
      exact ⟨rfl, hbel⟩
end Go.Proofs.Ytjdcnajppjamgaa.PW
