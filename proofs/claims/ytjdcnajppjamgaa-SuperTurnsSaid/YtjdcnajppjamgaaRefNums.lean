/-
  The document's own numbers in a block (freeboardref02.With, At), which later layers' answers stand on too.
-/
import Derived.Test.YtjdcnajppjamgaaRefBlocks
namespace Go.Proofs.Ytjdcnajppjamgaa.PW
open Go.RowKit
set_option linter.unusedVariables false
set_option maxRecDepth 100000

/-- A number's place in a block. -/
structure NumAt (l : List Nat) (p s : Int) : Prop where
  blk : l.length = 0 ∨ l.length = 128
  s1 : 1 ≤ s
  s4 : s ≤ 4
  p0 : 0 ≤ p
  p1 : p ≤ 128 - s

set_option maxHeartbeats 400000 in
theorem refwith_any (a : Option Addr) (len cap : Nat) (l : List Nat) (p s n : Nat) (w : World) (hr : Rd w.heap.size w a len cap l) (h : NumAt l p s) (h1 : n < 256 ^ s) :
    Calls Try.prog 57 #[.slice a len cap, .int .i64 p, .int .i64 s, .int .i64 n] w fun e w' => ∃ g, e = .returned (.slice (some ⟨g, 0, none⟩) 128 128) ∧ w.heap.size ≤ g ∧ Blk w' g (PK.pk (PK.wh l) p n s) ∧ Below w.heap.size w w' := by
  obtain ⟨h0, h2, h3, h4, h5⟩ := h
  have hnb : n ≤ 4294967295 := by
    have := Nat.pow_le_pow_right (n := 256) (by decide) (show s ≤ 4 by omega)
    omega
  have hwl : (PK.wh l).length = 128 := PK.wh_length (by omega)
  have Hwl := Lib.hid hwl
  have Hnb := Lib.hid hnb
  have hw := refwhole_any a len cap l w (by omega) hr
  have HW := Lib.hid hw
  clear hwl hnb h1 hw
  generalize PK.wh l = m at *
  go_enter Try.func57, Try.ntmps57
  go_wp2_with fail
  refine HW.out.mono ?_
  rintro e w1 ⟨g, rfl, hg, hblk, hbel⟩
  go_wp2_with fail
  go_loopw [3, 10] (fun v i wr => ∃ k : Nat, k ≤ s ∧ i = .int .i64 k ∧ v = .int .i64 (n / 256 ^ k : Nat) ∧ Blk wr g (PK.pk m p n k) ∧ Below w.heap.size w wr) (fun _ i _ => s - (intOf i).toNat)
  case atStart => exact ⟨0, by omega, rfl, by simp, hblk, hbel⟩
  case round =>
    obtain ⟨k, hk, rfl, rfl, hblk, hbel⟩ := hrel
    by_cases hlt : k < s
    · have hlen := PK.pk_length m p n k
      have f1 := hblk.cell (p + k) (by rw [hlen, Hwl.out]; omega)
      have f2 := hblk.frozen (p + k)
      have hx : n / 256 ^ k ≤ 4294967295 := Nat.le_trans (Nat.div_le_self _ _) Hnb.out
      have hs := hblk.set (p + k) (n / 256 ^ k % 256)
      have hs' : Blk (wr.setCell ⟨g, p + k, none⟩ (.int .u8 ((n / 256 ^ k % 256 : Nat) : Int))) g (PK.pk m p n (k + 1)) := hs
      have hb' : Below w.heap.size w (wr.setCell ⟨g, p + k, none⟩ (.int .u8 ((n / 256 ^ k % 256 : Nat) : Int))) := hbel.setCell hg _
      have hd : n / 256 ^ k / 256 = n / 256 ^ (k + 1) := by rw [Nat.div_div_eq_div_mul, Nat.pow_succ]
      have Hd := Lib.hid hd
      have HX := Lib.hid hx
      have Hs := Lib.hid hs'
      have Hb := Lib.hid hb'
      clear hs hs' hb' hblk hbel hlen hd hx
      generalize n / 256 ^ k = x at *
      have e : IntKind.u8.wrap ((x : Int) % 256) = ((x % 256 : Nat) : Int) := by
        rw [IntKind.wrap_u8']; omega
      have hx0 : (0 : Int) ≤ x := by omega
      generalize hy : x % 256 = y at *
      have Hy := Lib.hid hy
      clear hy
      go_wp2
      go_roundw
      case rel => exact ⟨k + 1, by omega, by go_num, by rw [← Hd.out]; have := HX.out; simp; exact IntWalk.wrap64_in _ (by omega), Hs.out, Hb.out⟩
      case measure => simp [intOf]; omega
    · obtain rfl : k = s := by omega
      generalize n / 256 ^ k = x at *
      go_wp2
      go_ret
      exact ⟨g, rfl, hg, hblk, hbel⟩

set_option maxHeartbeats 400000 in
theorem refat_any (a : Option Addr) (len cap : Nat) (l : List Nat) (p s T : Nat) (w : World) (hr : Rd w.heap.size w a len cap l) (h : NumAt l p s) (hT : T = PK.tv (PK.wh l) p s) :
    Calls Try.prog 39 #[.slice a len cap, .int .i64 p, .int .i64 s] w fun e w' => e = .returned (.int .i64 T) ∧ Below w.heap.size w w' := by
  obtain ⟨h0, h2, h3, h4, h5⟩ := h
  have hwl : (PK.wh l).length = 128 := PK.wh_length (by omega)
  have hwb : Bytes (PK.wh l) := PK.wh_bytes hr.byt
  have hTl : T ≤ 4294967295 := by
    have := PK.tv_lt hwb p s
    have := Nat.pow_le_pow_right (n := 256) (by decide) (show s ≤ 4 by omega)
    omega
  have Hwl := Lib.hid hwl
  have Hwb := Lib.hid hwb
  have HT := Lib.hid hT
  have HTl := Lib.hid hTl
  have hw := refwhole_any a len cap l w (by omega) hr
  have HW := Lib.hid hw
  clear hwl hwb hw hT hTl
  generalize PK.wh l = m at *
  go_enter Try.func39, Try.ntmps39
  go_wp2_with fail
  refine HW.out.mono ?_
  rintro e w1 ⟨g, rfl, hg, hblk, hbel⟩
  go_wp2_with fail
  go_loop [8, 9] (fun v i => ∃ j x : Nat, j ≤ s ∧ i = .int .i64 ((j : Int) - 1) ∧ v = .int .i64 x ∧ PK.tv m p j + x * 256 ^ j = T) (fun _ i => (intOf i + 1).toNat)
  case atStart => exact ⟨s, 0, by omega, rfl, rfl, by rw [Nat.zero_mul, Nat.add_zero, HT.out]⟩
  case round =>
    obtain ⟨j, x, hj, rfl, rfl, hx⟩ := hrel
    by_cases h0' : j = 0
    · subst h0'
      have hxT : x = T := by simpa [PK.tv] using hx
      subst hxT
      clear hx
      go_wp2
      go_ret
      exact ⟨rfl, hbel⟩
    · obtain ⟨i, rfl⟩ : ∃ i, j = i + 1 := ⟨j - 1, by omega⟩
      have f1 := hblk.cell (p + i) (by rw [Hwl.out]; omega)
      have hstep := PK.tv_top m p i x T hx
      have hle := PK.le_top hstep
      have hle' : x * 256 + m.getD (p + i) 0 ≤ 4294967295 := Nat.le_trans hle HTl.out
      have Hstep := Lib.hid hstep
      clear hx hstep hle h0'
      generalize m.getD (p + i) 0 = y at *
      have e0 : ((i + 1 : Nat) : Int) - 1 = (i : Int) := by omega
      rw [e0]
      clear e0
      have hi0 : (0 : Int) ≤ i := by omega
      go_wp2
      go_round
      case rel => exact ⟨i, x * 256 + y, by omega, rfl, by go_num, Hstep.out⟩
      case measure => simp [intOf]

end Go.Proofs.Ytjdcnajppjamgaa.PW
