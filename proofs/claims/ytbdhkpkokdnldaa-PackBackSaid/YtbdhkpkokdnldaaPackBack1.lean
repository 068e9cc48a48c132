/-
  The walk of PackBack: what is put is taken, all other bytes stay; what is taken, put where it was, changes nothing.
-/
import Derived.Test.YtbdhkpkokdnldaaPackLaws
namespace Go.Proofs.Ytbdhkpkokdnldaa.PW
open Go.RowKit
set_option linter.unusedVariables false

theorem at_q (a : Option Addr) (len cap : Nat) (l : List Nat) (i : Nat) (w : World) {B : Nat} (hr : Rd B w a len cap l) :
    Calls Try.prog 14 #[.slice a len cap, .int .i64 i] w fun e w' => e = .returned (.int .u8 (l.getD i 0 : Nat)) ∧ w' = w :=
  (at_any a len cap l i w hr).mono fun _ _ ⟨h1, h2⟩ => ⟨h1, h2.symm⟩
set_option maxHeartbeats 2000000 in
set_option maxRecDepth 100000 in
theorem back_good (a : Option Addr) (cap : Nat) (l : List Nat) (p s n : Nat) (w : World) (hr : Rd w.heap.size w a l.length cap l) (hm : cap ≤ 2 ^ 63 - 1) (hf : l.length ≤ cap) (hb : ¬1000 < l.length) (h : May l p s) (h1 : n < 256 ^ s) :
    Calls Try.prog 5 #[.slice a l.length cap, .int .i64 p, .int .i64 s, .int .i64 n] w fun e w' => e = .returned (.bool true) ∧ Below w.heap.size w w' := by
  have q1 := h.s1
  have q2 := h.s4
  have q3 := h.p0
  have q4 := h.p1
  have hwl : (PK.wh l).length = 128 := PK.wh_length (by have := h.blk; omega)
  have hwb : Bytes (PK.wh l) := PK.wh_bytes hr.byt
  have hml := pk_128 (PK.wh l) p n s hwl
  have hmb : Bytes (PK.pk (PK.wh l) p n s) := PK.pk_bytes hwb _ _ _
  have hout := fun j (hj : j < p ∨ p + s ≤ j) => PK.pk_out (PK.wh l) p n s j hj
  have htv : PK.tv (PK.pk (PK.wh l) p n s) p s = n := by rw [PK.tv_pk _ _ _ _ (by omega), Nat.mod_eq_of_lt h1]
  have hvl := PK.tv_lt hwb p s
  have hback : PK.pk (PK.pk (PK.wh l) p n s) p (PK.tv (PK.wh l) p s) s = PK.wh l := PK.pk_tv hwb p s (by omega) (by rw [PK.pk_length]) hout
  have hgd := PK.wh_get l
  have hput := fun (w' : World) (hr : Rd w'.heap.size w' a l.length cap l) => put_ok a l.length cap l p s n w' hr h h1
  have htake := fun (w' : World) (hr : Rd w'.heap.size w' a l.length cap l) => take_ok a l.length cap l p s w' hr h
  have H := Lib.hid h
  have HP := Lib.hid hput
  have HT := Lib.hid htake
  have Hwl := Lib.hid hwl
  have Hwb := Lib.hid hwb
  have Hml := Lib.hid hml
  have Hmb := Lib.hid hmb
  have Hout := Lib.hid hout
  have Htv := Lib.hid htv
  have Hvl := Lib.hid hvl
  have Hback := Lib.hid hback
  have Hgd := Lib.hid hgd
  clear h h1 hwl hwb hml hmb hout htv hvl hback hgd hput htake
  generalize PK.pk (PK.wh l) p n s = m at *
  generalize PK.tv (PK.wh l) p s = v at *
  generalize PK.wh l = bl at *
  go_enter Try.func5, Try.ntmps5
  go_wp2_with fail
  refine (alive_any _).mono ?_
  rintro e w1 ⟨rfl, hb1⟩
  have hr1 := (hr.below hb1).mono hb1.size
  go_wp2_with fail
  refine (HP.out _ hr1).mono ?_
  rintro e w2 ⟨g, rfl, hg, hblk, hb2⟩
  have hrm := hblk.rd Hml.out Hmb.out
  have k2 := thence hb1 hb2 (Nat.le_refl _)
  go_wp2_with fail
  have htk : Calls Try.prog 10 #[.slice (some ⟨g, 0, none⟩) 128 128, .int .i64 p, .int .i64 s] w2 fun e w' => e = .returned (.tuple #[.int .i64 n, .int .i64 0]) ∧ Below w2.heap.size w2 w' := by
    have := take_ok _ _ _ m p s w2 hrm ⟨.inr Hml.out, q1, q2, q3, q4⟩
    rw [PK.wh_full Hml.out, Htv.out] at this
    exact this
  refine htk.mono ?_
  clear htk
  rintro e w3 ⟨rfl, hb3⟩
  have k3 := thence k2 hb3 (Nat.le_refl _)
  have H2 := Lib.hid ((hrm.below hb3).mono hb3.size)
  have Hr := Lib.hid hr
  clear hrm hblk hr hr1 hb3
  go_wp2_with fail
  go_loopw [14] (fun i wr => ∃ k : Nat, k ≤ 128 ∧ i = .int .i64 k ∧ Below w.heap.size w wr ∧ Below w3.heap.size w3 wr) (fun i _ => 128 - (intOf i).toNat)
  case atStart => exact ⟨0, by omega, rfl, k3, Below.refl _ _⟩
  case round =>
    obtain ⟨k, hk, rfl, kb, kb3⟩ := hrel
    by_cases hlt : k < 128
    · have hrr := H2.out.below kb3
      have hrl := Hr.out.below kb
      obtain ⟨b', off', hbe, hbB, hcell⟩ := hrr.cells (by intro e; have := Hml.out; rw [e] at this; simp at this)
      injection hbe with hbe
      injection hbe with hbe1 hbe2
      subst hbe1 hbe2
      have hc := hcell k (by rw [Hml.out]; exact hlt)
      rw [Nat.zero_add] at hc
      have hat := fun nq => Calls.quiet_of_same (n := nq) (at_q a l.length cap l k (wr.drewN nq) (hrl.drewN nq))
      have Hat := Lib.hid hat
      have hkk : (0 : Int) ≤ k := by omega
      clear hat hcell hrr hrl
      have hadd : IntKind.i64.wrap ((p : Int) + (s : Int)) = (p : Int) + (s : Int) := IntWalk.i64_in _ (by omega)
      by_cases hin : p ≤ k ∧ k < p + s
      · obtain ⟨hi1, hi2⟩ := hin
        have d1 : decide (k < p) = false := by simp; omega
        have d1' : decide ((k : Int) < (p : Int)) = false := by simp; omega
        have d2 : decide ((p : Int) + (s : Int) ≤ (k : Int)) = false := by simp; omega
        go_wp2
        go_quiet (fail)
        go_wp2
        go_roundw
        case rel => exact ⟨k + 1, by omega, by go_num, below_drewN kb _, below_drewN kb3 _⟩
        case measure => simp [intOf]; omega
      · have hkout : m.getD k 0 = l.getD k 0 := by rw [Hout.out k (by omega), Hgd.out]
        rw [hkout] at hc
        by_cases hi : k < p
        · clear hkout
          have d1 : decide (k < p) = true := by simp; omega
          have d1' : decide ((k : Int) < (p : Int)) = true := by simp; omega
          go_wp2
          go_quiet (exact Hat.out _)
          go_wp2
          go_roundw
          case rel => exact ⟨k + 1, by omega, by go_num, below_drewN kb _, below_drewN kb3 _⟩
          case measure => simp [intOf]; omega
        · clear hkout
          have d1 : decide (k < p) = false := by simp; omega
          have d1' : decide ((k : Int) < (p : Int)) = false := by simp; omega
          have d2 : decide ((p : Int) + (s : Int) ≤ (k : Int)) = true := by simp; omega
          go_wp2
          go_quiet (exact Hat.out _)
          go_wp2
          go_roundw
          case rel => exact ⟨k + 1, by omega, by go_num, below_drewN kb _, below_drewN kb3 _⟩
          case measure => simp [intOf]; omega
    · obtain rfl : k = 128 := by omega
      have hrl := (Hr.out.below kb).mono kb.size
      have hrr := (H2.out.below kb3).mono kb3.size
      clear kb3 hb2 k2 k3
      go_wp2_with fail
      refine (HT.out _ hrl).mono ?_
      rintro e w4 ⟨rfl, hb4⟩
      have hput2 : Calls Try.prog 9 #[.slice (some ⟨g, 0, none⟩) 128 128, .int .i64 p, .int .i64 s, .int .i64 v] w4 (NewBlk w4 bl) := by
        have := put_ok _ _ _ m p s v w4 ((hrr.below hb4).mono hb4.size) ⟨.inr Hml.out, q1, q2, q3, q4⟩ Hvl.out
        rw [PK.wh_full Hml.out, Hback.out] at this
        exact this
      have HP2 := Lib.hid hput2
      clear hput2 hrl hrr
      go_wp2_with fail
      refine HP2.out.mono ?_
      rintro e w5 ⟨g5, rfl, hg5, hblk5, hb5⟩
      have k5 := thence (thence kb hb4 (Nat.le_refl _)) hb5 (Nat.le_refl _)
      have H5 := Lib.hid hblk5
      clear hblk5 HP2 hb4 hb5 kb hg5
      go_wp2_with fail
      go_loopw [19] (fun i wr => ∃ k : Nat, k ≤ 128 ∧ i = .int .i64 k ∧ Below w.heap.size w wr ∧ Below w5.heap.size w5 wr) (fun i _ => 128 - (intOf i).toNat)
      case atStart => exact ⟨0, by omega, rfl, k5, Below.refl _ _⟩
      case round =>
        obtain ⟨k, hk, rfl, kb, kb5⟩ := hrel
        by_cases hlt : k < 128
        · have hbk := H5.out.below kb5 H5.out.lt
          have hrl := Hr.out.below kb
          have hc := hbk.cell k (by rw [Hwl.out]; exact hlt)
          rw [Hgd.out] at hc
          have hat := fun nq => Calls.quiet_of_same (n := nq) (at_q a l.length cap l k _ (hrl.drewN nq))
          have Hat := Lib.hid hat
          have hkk : (0 : Int) ≤ k := by omega
          clear hat hbk hrl
          go_wp2
          go_quiet (exact Hat.out _)
          go_wp2
          go_roundw
          case rel => exact ⟨k + 1, by omega, by go_num, below_drewN kb _, below_drewN kb5 _⟩
          case measure => simp [intOf]; omega
        · obtain rfl : k = 128 := by omega
          go_wp2
          go_ret
          exact ⟨rfl, kb⟩

set_option maxHeartbeats 1000000 in
set_option maxRecDepth 100000 in
theorem back_walk (a : Option Addr) (len cap : Nat) (l : List Nat) (p s n : Int) (w : World) (hr : Rd w.heap.size w a len cap l) :
    Calls Try.prog 5 #[.slice a len cap, .int .i64 p, .int .i64 s, .int .i64 n] w fun e w' => e = .returned (.bool true) ∧ Below w.heap.size w w' := by
  obtain rfl := hr.long
  have hm := hr.small
  have hf := hr.fits
  unfold maxLen at hm
  by_cases hb : 1000 < l.length
  · go_enter Try.func5, Try.ntmps5
    go_wp2_with fail
    refine (alive_any _).mono ?_
    rintro e w1 ⟨rfl, hb1⟩
    go_wp2
    go_ret
    exact ⟨rfl, hb1⟩
  · by_cases h : ∃ p' s' n' : Nat, p = p' ∧ s = s' ∧ n = n' ∧ May l p s ∧ n' < 256 ^ s'
    · obtain ⟨p', s', n', rfl, rfl, rfl, h, h1⟩ := h
      exact back_good a cap l p' s' n' w hr hm hf hb h h1
    · obtain ⟨c, hc, hp⟩ := put_no a l.length cap l p s n h
      have HP := Lib.hid hp
      clear hp h
      rcases hc with rfl | rfl
      all_goals
        go_enter Try.func5, Try.ntmps5
        go_wp2_with fail
        refine (alive_any _).mono ?_
        rintro e w1 ⟨rfl, hb1⟩
        go_wp2_with fail
        refine (HP.out _ ((hr.below hb1).mono hb1.size)).mono ?_
        rintro e w2 ⟨rfl, rfl⟩
        go_wp2
        go_ret
        exact ⟨rfl, hb1⟩
end Go.Proofs.Ytbdhkpkokdnldaa.PW
