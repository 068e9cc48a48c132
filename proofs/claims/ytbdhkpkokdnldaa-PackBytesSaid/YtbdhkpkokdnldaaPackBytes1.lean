/-
  The walk of PackBytes: a number's bytes stand the lowest first.
-/
import Derived.Test.YtbdhkpkokdnldaaPackLaws
namespace Go.Proofs.Ytbdhkpkokdnldaa.PW
open Go.RowKit
set_option linter.unusedVariables false

set_option maxHeartbeats 1000000 in
theorem bytes_good (a : Option Addr) (cap : Nat) (l : List Nat) (p s n : Nat) (w : World) (hr : Rd w.heap.size w a l.length cap l) (hm : cap ≤ 2 ^ 63 - 1) (hf : l.length ≤ cap) (hb : ¬1000 < l.length) (h : May l p s) (h1 : n < 256 ^ s) :
    Calls Try.prog 7 #[.slice a l.length cap, .int .i64 p, .int .i64 s, .int .i64 n] w fun e w' => e = .returned (.bool true) ∧ Below w.heap.size w w' := by
  have q1 := h.s1
  have q2 := h.s4
  have q3 := h.p0
  have q4 := h.p1
  have hwl : (PK.wh l).length = 128 := PK.wh_length (by have := h.blk; omega)
  have hml := pk_128 (PK.wh l) p n s hwl
  have hmb : Bytes (PK.pk (PK.wh l) p n s) := PK.pk_bytes (PK.wh_bytes hr.byt) _ _ _
  have hin := fun j (hj : j < s) => PK.pk_in (PK.wh l) p n s j hj (by omega)
  have hlast : n / 256 ^ s = 0 := Nat.div_eq_of_lt h1
  have hput := fun (w' : World) (hr : Rd w'.heap.size w' a l.length cap l) => put_ok a l.length cap l p s n w' hr h h1
  have hnb : n ≤ 4294967295 := by
    have := Nat.pow_le_pow_right (n := 256) (by decide) (show s ≤ 4 by omega)
    omega
  have Hnb := Lib.hid hnb
  have HP := Lib.hid hput
  have Hml := Lib.hid hml
  have Hmb := Lib.hid hmb
  have Hin := Lib.hid hin
  have Hlast := Lib.hid hlast
  clear h h1 hml hmb hin hput hwl hlast hnb
  generalize PK.pk (PK.wh l) p n s = m at *
  go_enter Try.func7, Try.ntmps7
  go_wp2_with fail
  refine (alive_any _).mono ?_
  rintro e w1 ⟨rfl, hb1⟩
  have hr1 := (hr.below hb1).mono hb1.size
  go_wp2_with fail
  refine (HP.out _ hr1).mono ?_
  rintro e w2 ⟨g, rfl, hg, hblk, hb2⟩
  have hrm := hblk.rd Hml.out Hmb.out
  have k2 := thence hb1 hb2 (Nat.le_refl _)
  have H2 := Lib.hid hrm
  clear hrm hblk hr hr1
  go_wp2_with fail
  go_loopw [3, 12] (fun v i wr => ∃ k : Nat, k ≤ s ∧ i = .int .i64 k ∧ v = .int .i64 (n / 256 ^ k : Nat) ∧ Below w.heap.size w wr ∧ Below w2.heap.size w2 wr) (fun _ i _ => s - (intOf i).toNat)
  case atStart => exact ⟨0, by omega, rfl, by simp, k2, Below.refl _ _⟩
  case round =>
    obtain ⟨k, hk, rfl, rfl, kb, kb2⟩ := hrel
    by_cases hlt : k < s
    · have hrr := (H2.out.below kb2).mono kb2.size
      have htk : Calls Try.prog 10 #[.slice (some ⟨g, 0, none⟩) 128 128, .int .i64 ((p : Int) + (k : Int)), .int .i64 1] wr fun e w' => e = .returned (.tuple #[.int .i64 (((n / 256 ^ k : Nat) : Int) % 256), .int .i64 0]) ∧ Below wr.heap.size wr w' := by
        have := take_ok _ _ _ m (p + k) 1 wr hrr ⟨.inr Hml.out, by decide, by decide, by omega, by have := q4; have := q2; simp; omega⟩
        rw [PK.wh_full Hml.out] at this
        have e : PK.tv m (p + k) 1 = n / 256 ^ k % 256 := by
          unfold PK.tv PK.tv
          rw [Nat.add_zero, Hin.out k hlt]
          simp
        rw [e, Int.natCast_add, Int.natCast_emod] at this
        exact this
      have HT := Lib.hid htk
      have hd : n / 256 ^ k / 256 = n / 256 ^ (k + 1) := by rw [Nat.div_div_eq_div_mul, Nat.pow_succ]
      have Hd := Lib.hid hd
      have hx : n / 256 ^ k ≤ 4294967295 := Nat.le_trans (Nat.div_le_self _ _) Hnb.out
      have HX := Lib.hid hx
      clear htk hrr hd hx
      generalize n / 256 ^ k = x at *
      go_wp2_with fail
      refine HT.out.mono ?_
      rintro e w3 ⟨rfl, hb3⟩
      have hge : (0 : Int) ≤ x := by omega
      have k3 := kb.trans (hb3.mono kb.size)
      have k4 := kb2.trans (hb3.mono kb2.size)
      go_wp2
      go_roundw
      case rel => exact ⟨k + 1, by omega, by go_num, by rw [← Hd.out]; have := HX.out; simp; exact IntWalk.wrap64_in _ (by omega), k3, k4⟩
      case measure => simp [intOf]; omega
    · obtain rfl : k = s := by omega
      rw [Hlast.out]
      go_wp2
      go_ret
      exact ⟨rfl, kb⟩

set_option maxHeartbeats 1000000 in
theorem bytes_walk (a : Option Addr) (len cap : Nat) (l : List Nat) (p s n : Int) (w : World) (hr : Rd w.heap.size w a len cap l) :
    Calls Try.prog 7 #[.slice a len cap, .int .i64 p, .int .i64 s, .int .i64 n] w fun e w' => e = .returned (.bool true) ∧ Below w.heap.size w w' := by
  obtain rfl := hr.long
  have hm := hr.small
  have hf := hr.fits
  unfold maxLen at hm
  by_cases hb : 1000 < l.length
  · go_enter Try.func7, Try.ntmps7
    go_wp2_with fail
    refine (alive_any _).mono ?_
    rintro e w1 ⟨rfl, hb1⟩
    go_wp2
    go_ret
    exact ⟨rfl, hb1⟩
  · by_cases h : ∃ p' s' n' : Nat, p = p' ∧ s = s' ∧ n = n' ∧ May l p s ∧ n' < 256 ^ s'
    · obtain ⟨p', s', n', rfl, rfl, rfl, h, h1⟩ := h
      exact bytes_good a cap l p' s' n' w hr hm hf hb h h1
    · obtain ⟨c, hc, hp⟩ := put_no a l.length cap l p s n h
      have HP := Lib.hid hp
      clear hp h
      rcases hc with rfl | rfl
      all_goals
        go_enter Try.func7, Try.ntmps7
        go_wp2_with fail
        refine (alive_any _).mono ?_
        rintro e w1 ⟨rfl, hb1⟩
        go_wp2_with fail
        refine (HP.out _ ((hr.below hb1).mono hb1.size)).mono ?_
        rintro e w2 ⟨rfl, rfl⟩
        go_wp2
        go_ret
        exact ⟨rfl, hb1⟩
end Go.Proofs.Ytbdhkpkokdnldaa.PW
