/-
  The document's own answers of one block (freeboardref02.Block, Whole), which later layers' answers stand on too.
-/
import Derived.Test.YtjdcnajppjamgaaBlock128
import Derived.Test.YtjdcnajppjamgaaPackMath
namespace Go.Proofs.Ytjdcnajppjamgaa.PW
open Go.RowKit
set_option linter.unusedVariables false
set_option maxRecDepth 100000

theorem refblock_yes (a : Option Addr) (len cap : Nat) (l : List Nat) (w : World) {B : Nat} (hr : Rd B w a len cap l) (h : l.length = 0 ∨ l.length = 128) :
    Calls Try.prog 26 #[.slice a len cap] w fun e w' => e = .returned (.bool true) ∧ w = w' := by
  obtain rfl := hr.long
  clear hr
  rcases h with h | h
  · rw [h]
    go_enter Try.func26, Try.ntmps26
    go_wp2
    go_ret
    exact ⟨rfl, rfl⟩
  · rw [h]
    go_enter Try.func26, Try.ntmps26
    go_wp2
    go_ret
    exact ⟨rfl, rfl⟩
theorem refblock_no (a : Option Addr) (len cap : Nat) (l : List Nat) (w : World) {B : Nat} (hr : Rd B w a len cap l) (h : l.length ≠ 0) (h1 : l.length ≠ 128) :
    Calls Try.prog 26 #[.slice a len cap] w fun e w' => e = .returned (.bool false) ∧ w = w' := by
  obtain rfl := hr.long
  have hm := hr.small
  have hf := hr.fits
  unfold maxLen at hm
  have e0 : ((l.length : Int) == 0) = false := by rw [beq_eq_false_iff_ne]; omega
  have e1 : ((l.length : Int) == 128) = false := by rw [beq_eq_false_iff_ne]; omega
  clear hr
  generalize l.length = n at *
  go_enter Try.func26, Try.ntmps26
  go_wp2
  go_ret
  exact ⟨rfl, rfl⟩
theorem refwhole_any (a : Option Addr) (len cap : Nat) (l : List Nat) (w : World) (hl : l.length ≤ 128) (hr : Rd w.heap.size w a len cap l) :
    Calls Try.prog 27 #[.slice a len cap] w fun e w' => ∃ g, e = .returned (.slice (some ⟨g, 0, none⟩) 128 128) ∧ w.heap.size ≤ g ∧ Blk w' g (PK.wh l) ∧ Below w.heap.size w w' := by
  obtain rfl := hr.long
  obtain ⟨Z, HZ, HZl, hz⟩ := make128'
  go_enter Try.func27, Try.ntmps27
  go_wp2
  have hblk : Blk (w.alloc (.cells (Z.map bv).toArray 5)) w.heap.size (PK.wk l 0) := by rw [PK.wk_zero, ← HZ.out]; exact Blk.alloc w Z _
  have hbel : Below w.heap.size w (w.alloc (.cells (Z.map bv).toArray 5)) := (Below.refl _ w).alloc (Nat.le_refl _) _
  have hg : w.heap.size ≤ w.heap.size := Nat.le_refl _
  generalize w.alloc (.cells (Z.map bv).toArray 5) = w1 at *
  generalize hgB : (w.heap.size) = g at hblk hg ⊢
  have HgB := Lib.hid hgB
  clear hgB hz
  go_loopw [4] (fun i wr => ∃ k : Nat, k ≤ l.length ∧ i = .int .i64 k ∧ Blk wr g (PK.wk l k) ∧ Below w.heap.size w wr) (fun i _ => l.length - (intOf i).toNat)
  case atStart => exact ⟨0, by omega, rfl, hblk, hbel⟩
  case round =>
    obtain ⟨k, hk, rfl, hblk, hbel⟩ := hrel
    by_cases hlt : k < l.length
    · have hr1 := hr.below hbel
      obtain ⟨b, off, rfl, hB, hcc⟩ := hr1.cells (by intro e; subst e; simp at hlt)
      have f0 := hcc k hlt
      have f1 := hblk.cell k (by rw [PK.wk_length l k hk (by omega)]; omega)
      have f2 := hblk.frozen k
      have hs := hblk.set k (l.getD k 0)
      rw [PK.wk_step l k hlt hl] at hs
      have hb' : Below w.heap.size w (wr.setCell ⟨g, k, none⟩ (.int .u8 (l.getD k 0 : Nat))) := hbel.setCell (by show w.heap.size ≤ g; rw [HgB.out]; exact Nat.le_refl _) _
      have Hs := Lib.hid hs
      have Hb := Lib.hid hb'
      clear hs hb' hblk hbel hcc hr1
      generalize l.getD k 0 = x at *
      go_wp2
      go_roundw
      case rel => exact ⟨k + 1, by omega, by go_num, Hs.out, Hb.out⟩
      case measure => simp [intOf]; omega
    · obtain rfl : k = l.length := by omega
      go_wp2
      go_ret
      rw [PK.wk_all] at hblk
      exact ⟨g, rfl, by rw [HgB.out]; exact Nat.le_refl _, hblk, hbel⟩

end Go.Proofs.Ytjdcnajppjamgaa.PW
