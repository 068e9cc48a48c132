/-
  The walk of PackBounds: what is refused, and what is not.
-/
import Derived.Test.YtbdhkpkokdnldaaPackLaws
namespace Go.Proofs.Ytbdhkpkokdnldaa.PW
open Go.RowKit
set_option linter.unusedVariables false

set_option maxHeartbeats 4000000 in
set_option maxRecDepth 100000 in
theorem bounds_0 (a : Option Addr) (cap : Nat) (l : List Nat) (p s n : Int) (w : World) (hr : Rd w.heap.size w a l.length cap l) (hm : cap ≤ 2 ^ 63 - 1) (hf : l.length ≤ cap) (hb : ¬1000 < l.length) (h : l.length ≠ 0 ∧ l.length ≠ 128) :
    Calls Try.prog 8 #[.slice a l.length cap, .int .i64 p, .int .i64 s, .int .i64 n] w fun e w' => e = .returned (.bool true) ∧ Below w.heap.size w w' := by
  obtain ⟨h0, h1⟩ := h
  have e0 : ((l.length : Int) != 0) = true := by rw [bne_iff_ne]; omega
  have e1 : ((l.length : Int) != 128) = true := by rw [bne_iff_ne]; omega
  go_enter Try.func8, Try.ntmps8
  go_wp2_with fail
  refine (alive_any _).mono ?_
  rintro e w1 ⟨rfl, hb1⟩
  have hr1 := (hr.below hb1).mono hb1.size
  go_wp2_with fail
  refine (put_text _ _ _ l _ _ _ _ hr1 h0 h1).mono ?_
  rintro e w2 ⟨rfl, rfl⟩
  go_wp2_with fail
  refine (take_text _ _ _ l _ _ _ hr1 h0 h1).mono ?_
  rintro e w2 ⟨rfl, rfl⟩
  go_wp2
  go_ret
  exact ⟨rfl, hb1⟩

set_option maxHeartbeats 4000000 in
set_option maxRecDepth 100000 in
theorem bounds_1 (a : Option Addr) (cap : Nat) (l : List Nat) (p s n : Int) (w : World) (hr : Rd w.heap.size w a l.length cap l) (hm : cap ≤ 2 ^ 63 - 1) (hf : l.length ≤ cap) (hb : ¬1000 < l.length) (h : (l.length = 0 ∨ l.length = 128) ∧ (s < 1 ∨ 4 < s ∨ p < 0 ∨ 128 - s < p)) :
    Calls Try.prog 8 #[.slice a l.length cap, .int .i64 p, .int .i64 s, .int .i64 n] w fun e w' => e = .returned (.bool true) ∧ Below w.heap.size w w' := by
  obtain ⟨h0, h1⟩ := h
  have H0 := Lib.hid h0
  have h1' : s < 1 ∨ (1 ≤ s ∧ 4 < s) ∨ (1 ≤ s ∧ s ≤ 4 ∧ p < 0) ∨ (1 ≤ s ∧ s ≤ 4 ∧ 0 ≤ p ∧ 128 - s < p) := by omega
  have H1 := Lib.hid h1
  clear h1
  rcases h1' with h1 | ⟨h1, h2⟩ | ⟨h1, h2, h3⟩ | ⟨h1, h2, h3, h4⟩ <;> rcases h0 with h0 | h0
  all_goals
    first
      | (have e0 : ((l.length : Int) != 0) = false := by simp [h0])
      | (have e0 : ((l.length : Int) != 0) = true := by simp [h0])
    have e1 : ((l.length : Int) != 0 && (l.length : Int) != 128) = false := by simp [h0]
    first
      | (have e2 : ((l.length : Int) != 128) = false := by simp [h0])
      | skip
    clear h0
    go_enter Try.func8, Try.ntmps8
    go_wp2_with fail
    refine (alive_any _).mono ?_
    rintro e w1 ⟨rfl, hb1⟩
    have hr1 := (hr.below hb1).mono hb1.size
    go_wp2_with fail
    refine (put_place _ _ _ l _ _ _ _ hr1 H0.out H1.out).mono ?_
    rintro e w2 ⟨rfl, rfl⟩
    go_wp2_with fail
    refine (take_place _ _ _ l _ _ _ hr1 H0.out H1.out).mono ?_
    rintro e w2 ⟨rfl, rfl⟩
    go_wp2
    go_ret
    exact ⟨rfl, hb1⟩

set_option maxHeartbeats 4000000 in
set_option maxRecDepth 100000 in
theorem bounds_2 (a : Option Addr) (cap : Nat) (l : List Nat) (p s n : Int) (w : World) (hr : Rd w.heap.size w a l.length cap l) (hm : cap ≤ 2 ^ 63 - 1) (hf : l.length ≤ cap) (hb : ¬1000 < l.length) (h : ∃ s' : Nat, s = s' ∧ May l p s ∧ (n < 0 ∨ (256 : Int) ^ s' ≤ n)) :
    Calls Try.prog 8 #[.slice a l.length cap, .int .i64 p, .int .i64 s, .int .i64 n] w fun e w' => e = .returned (.bool true) ∧ Below w.heap.size w w' := by
  obtain ⟨s', rfl, hmay, h1⟩ := h
  obtain ⟨p', rfl⟩ := Int.eq_ofNat_of_zero_le hmay.p0
  have h0 := hmay.blk
  have q1 := hmay.s1
  have q2 := hmay.s4
  have q3 := hmay.p0
  have q4 := hmay.p1
  have H1 := Lib.hid h1
  have H := Lib.hid hmay
  clear hmay
  rcases (show s' = 1 ∨ s' = 2 ∨ s' = 3 ∨ s' = 4 by omega) with hs | hs | hs | hs <;> rcases h0 with h0 | h0
  all_goals
    first
      | (have e0 : ((l.length : Int) != 0) = false := by simp [h0])
      | (have e0 : ((l.length : Int) != 0) = true := by simp [h0])
    have e1 : ((l.length : Int) != 0 && (l.length : Int) != 128) = false := by simp [h0]
    first
      | (have e2 : ((l.length : Int) != 128) = false := by simp [h0])
      | skip
    first | (have f1 : ((s' : Int) == 1) = true := by simp [hs]) | (have f1 : ((s' : Int) == 1) = false := by simp [hs])
    first | (have f2 : ((s' : Int) == 2) = true := by simp [hs]) | (have f2 : ((s' : Int) == 2) = false := by simp [hs])
    first | (have f3 : ((s' : Int) == 3) = true := by simp [hs]) | (have f3 : ((s' : Int) == 3) = false := by simp [hs])
    first | (have f4 : ((s' : Int) == 4) = true := by simp [hs]) | (have f4 : ((s' : Int) == 4) = false := by simp [hs])
    have h1' : n < 0 ∨ (0 ≤ n ∧ (256 : Int) ^ s' ≤ n) := by
      rcases h1 with h1 | h1
      · exact .inl h1
      · exact .inr ⟨Int.le_trans (Int.pow_nonneg (by decide)) h1, h1⟩
    rw [hs] at h1'
    clear h1
    simp only [Int.reducePow] at h1'
    clear h0 hs
    rcases h1' with h1' | ⟨h1', h1''⟩
    all_goals
      go_enter Try.func8, Try.ntmps8
      go_wp2_with fail
      refine (alive_any _).mono ?_
      rintro e w1 ⟨rfl, hb1⟩
      have hr1 := (hr.below hb1).mono hb1.size
      go_wp2_with fail
      refine (put_num _ _ _ l _ _ _ _ hr1 H.out H1.out).mono ?_
      rintro e w2 ⟨rfl, rfl⟩
      have hr2 := hr1
      go_wp2_with fail
      refine (take_ok _ _ _ l _ _ _ hr2 H.out).mono ?_
      rintro e w3 ⟨rfl, hb3⟩
      go_wp2
      go_ret
      exact ⟨by first | rfl | (simp; omega), thence hb1 hb3 (Nat.le_refl _)⟩

set_option maxHeartbeats 4000000 in
set_option maxRecDepth 100000 in
theorem bounds_3 (a : Option Addr) (cap : Nat) (l : List Nat) (p s n : Int) (w : World) (hr : Rd w.heap.size w a l.length cap l) (hm : cap ≤ 2 ^ 63 - 1) (hf : l.length ≤ cap) (hb : ¬1000 < l.length) (h : ∃ p' s' n' : Nat, p = p' ∧ s = s' ∧ n = n' ∧ May l p s ∧ n' < 256 ^ s') :
    Calls Try.prog 8 #[.slice a l.length cap, .int .i64 p, .int .i64 s, .int .i64 n] w fun e w' => e = .returned (.bool true) ∧ Below w.heap.size w w' := by
  obtain ⟨p', s', n', rfl, rfl, hn, hmay, h1⟩ := h
  have hput := fun (w' : World) (hr : Rd w'.heap.size w' a l.length cap l) => put_ok a l.length cap l p' s' n' w' hr hmay h1
  rw [← hn] at hput
  have HP := Lib.hid hput
  clear hput
  have h0 := hmay.blk
  have q1 := hmay.s1
  have q2 := hmay.s4
  have q3 := hmay.p0
  have q4 := hmay.p1
  have H1 := Lib.hid h1
  have H := Lib.hid hmay
  clear hmay
  rcases (show s' = 1 ∨ s' = 2 ∨ s' = 3 ∨ s' = 4 by omega) with hs | hs | hs | hs <;> rcases h0 with h0 | h0
  all_goals
    first
      | (have e0 : ((l.length : Int) != 0) = false := by simp [h0])
      | (have e0 : ((l.length : Int) != 0) = true := by simp [h0])
    have e1 : ((l.length : Int) != 0 && (l.length : Int) != 128) = false := by simp [h0]
    first
      | (have e2 : ((l.length : Int) != 128) = false := by simp [h0])
      | skip
    first | (have f1 : ((s' : Int) == 1) = true := by simp [hs]) | (have f1 : ((s' : Int) == 1) = false := by simp [hs])
    first | (have f2 : ((s' : Int) == 2) = true := by simp [hs]) | (have f2 : ((s' : Int) == 2) = false := by simp [hs])
    first | (have f3 : ((s' : Int) == 3) = true := by simp [hs]) | (have f3 : ((s' : Int) == 3) = false := by simp [hs])
    first | (have f4 : ((s' : Int) == 4) = true := by simp [hs]) | (have f4 : ((s' : Int) == 4) = false := by simp [hs])
    have h1i : n < (256 : Int) ^ s' := by have := Int.ofNat_lt.2 h1; rw [Int.natCast_pow] at this; rw [hn]; exact this
    rw [hs] at h1i
    have h1n : (0 : Int) ≤ n := by omega
    clear h1 hn
    simp only [Int.reducePow] at h1i
    clear h0 hs
    go_enter Try.func8, Try.ntmps8
    go_wp2_with fail
    refine (alive_any _).mono ?_
    rintro e w1 ⟨rfl, hb1⟩
    have hr1 := (hr.below hb1).mono hb1.size
    go_wp2_with fail
    refine (HP.out _ hr1).mono ?_
    rintro e w2 ⟨g, rfl, hg, hblk, hb2⟩
    have hr2 := (hr1.below hb2).mono hb2.size
    go_wp2_with fail
    refine (take_ok _ _ _ l _ _ _ hr2 H.out).mono ?_
    rintro e w3 ⟨rfl, hb3⟩
    go_wp2
    go_ret
    exact ⟨by first | rfl | (simp; omega), thence (thence hb1 hb2 (Nat.le_refl _)) hb3 (Nat.le_refl _)⟩

theorem bounds_walk (a : Option Addr) (len cap : Nat) (l : List Nat) (p s n : Int) (w : World) (hr : Rd w.heap.size w a len cap l) :
    Calls Try.prog 8 #[.slice a len cap, .int .i64 p, .int .i64 s, .int .i64 n] w fun e w' => e = .returned (.bool true) ∧ Below w.heap.size w w' := by
  obtain rfl := hr.long
  have hm := hr.small
  have hf := hr.fits
  unfold maxLen at hm
  by_cases hb : 1000 < l.length
  · go_enter Try.func8, Try.ntmps8
    go_wp2_with fail
    refine (alive_any _).mono ?_
    rintro e w1 ⟨rfl, hb1⟩
    go_wp2
    go_ret
    exact ⟨rfl, hb1⟩
  · rcases ways l p s n with h | h | h | h
    · exact bounds_0 a cap l p s n w hr hm hf hb h
    · exact bounds_1 a cap l p s n w hr hm hf hb h
    · exact bounds_2 a cap l p s n w hr hm hf hb h
    · exact bounds_3 a cap l p s n w hr hm hf hb h
end Go.Proofs.Ytbdhkpkokdnldaa.PW
