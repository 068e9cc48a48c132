/-
  The document's own sum (freeboardref01.Sum), which later layers' answers stand on too.
-/
import Derived.Test.YtjdcnajppjamgaaBase
import Derived.Test.YtjdcnajppjamgaaPolyMath
namespace Go.Proofs.Ytjdcnajppjamgaa.PW
open Go.RowKit
set_option linter.unusedVariables false
set_option maxRecDepth 100000

theorem rsXor32 (a b : Nat) (ha : a < 4294967296) (hb : b < 4294967296) : bits .xor .u32 (a : Int) (b : Int) = ((a ^^^ b : Nat) : Int) := u32_xor_nat a b ha hb

theorem rsSub32 (a : Nat) (ha : a < 4294967296) : IntKind.u32.wrap (4294967295 - (a : Int)) = ((4294967295 - a : Nat) : Int) := by
  rw [IntKind.wrap_u32']; omega

theorem rsWith_any (s x : Nat) (w : World) (hs : s < 4294967296) (hx : x < 256) :
    Calls Try.prog 64 #[.int .u32 s, .int .u8 x] w fun e w' => e = .returned (.int .u32 (PM.with1 s x : Nat)) ∧ w' = w := by
  have e0 := rsSub32 s hs
  have e1 := rsXor32 (4294967295 - s) x (by omega) (by omega)
  have hyl : (4294967295 - s) ^^^ x < 4294967296 := PM.lt_xor (by omega) (by omega)
  have hw : PM.with1 s x = 4294967295 - PM.fk 8 ((4294967295 - s) ^^^ x) := rfl
  have Hw := Lib.hid hw
  clear hw
  generalize (4294967295 - s) ^^^ x = y at *
  go_enter Try.func64, Try.ntmps64
  go_wp2
  clear e0 e1
  go_loop [5, 6, 7] (fun v i _ => ∃ k : Nat, k ≤ 8 ∧ i = .int .i64 k ∧ v = .int .u32 (PM.fk k y : Nat)) (fun _ i _ => 8 - (intOf i).toNat)
  case atStart => exact ⟨0, by omega, rfl, rfl⟩
  case round =>
    obtain ⟨k, hk, rfl, rfl⟩ := hrel
    have hl := PM.fk_lt k hyl
    by_cases hlt : k < 8
    · have hs1 : PM.fk (k + 1) y = PM.f (PM.fk k y) := rfl
      have Hs := Lib.hid hs1
      clear hs1
      generalize PM.fk k y = n at *
      by_cases hp : n % 2 = 1
      · have hp1 : ((n : Int) % 2 == 1) = true := by simp; omega
        have e4 : bits .xor .u32 ((n : Int) / 2) 2197175160 = ((PM.f n : Nat) : Int) := by
          have := rsXor32 (n / 2) 2197175160 (by omega) (by decide)
          rw [Int.natCast_ediv] at this
          unfold PM.f
          rw [if_pos hp]
          exact this
        clear hp
        go_wp2
        go_round
        case rel => exact ⟨k + 1, by omega, by go_num, by rw [Hs.out]⟩
        case measure => simp [intOf]; omega
      · have hp1 : ((n : Int) % 2 == 1) = false := by simp; omega
        have hf : ((n : Int) / 2) = ((PM.f n : Nat) : Int) := by
          unfold PM.f
          rw [if_neg hp, Int.natCast_ediv]; rfl
        have Hf := Lib.hid hf
        clear hp hf
        go_wp2
        go_round
        case rel => exact ⟨k + 1, by omega, by go_num, by rw [Hs.out, ← Hf.out]⟩
        case measure => simp [intOf]; omega
    · obtain rfl : k = 8 := by omega
      have e0 := rsSub32 (PM.fk 8 y) hl
      generalize PM.fk 8 y = n at *
      go_wp2
      go_ret
      exact ⟨by rw [Hw.out]; rfl, rfl⟩

theorem rsOver_any (s : Nat) (a : Option Addr) (len cap : Nat) (l : List Nat) (w : World) (hs : s < 4294967296) (hr : Rd w.heap.size w a len cap l) :
    Calls Try.prog 62 #[.int .u32 s, .slice a len cap] w fun e w' => e = .returned (.int .u32 (PM.over s l : Nat)) ∧ w' = w := by
  obtain ⟨rfl, hf, hm, hby, hn, hc⟩ := hr
  unfold maxLen at hm
  go_enter Try.func62, Try.ntmps62
  go_wp2
  go_loop [0, 5] (fun v i => ∃ k : Nat, k ≤ l.length ∧ i = .int .i64 k ∧ v = .int .u32 (PM.over s (l.take k) : Nat)) (fun _ i => l.length - (intOf i).toNat)
  case atStart => exact ⟨0, Nat.zero_le _, rfl, by rw [List.take_zero, PM.over_nil hs]⟩
  case round =>
    obtain ⟨k, hk, rfl, rfl⟩ := hrel
    by_cases hlt : k < l.length
    · obtain ⟨b, off, rfl, hB, hcc⟩ := hc (by intro e; subst e; simp at hlt)
      have hcell := hcc k hlt
      have hst : PM.over s (l.take (k + 1)) = PM.with1 (PM.over s (l.take k)) (l.getD k 0) := by
        rw [List.take_succ_eq_append_getElem hlt, PM.over_snoc _ _ (fun x hx => hby x (List.mem_of_mem_take hx))]; simp [List.getD, hlt]
      have hml := PM.over_lt s (l.take k)
      have hxl : l.getD k 0 < 256 := by simp only [List.getD, List.getElem?_eq_getElem hlt, Option.getD_some]; exact hby _ (List.getElem_mem _)
      have Hst := Lib.hid hst
      clear hst hcc hc hn
      generalize PM.over s (l.take k) = m at *
      generalize l.getD k 0 = x at *
      go_wp2_with (go_at_call 64; refine (rsWith_any m x _ hml hxl).mono ?_; rintro e w' ⟨rfl, rfl⟩)
      go_round
      case rel => exact ⟨k + 1, by omega, by go_num, by rw [Hst.out]⟩
      case measure => simp [intOf]; omega
    · have hfin : PM.over s (l.take k) = PM.over s l := by rw [List.take_of_length_le (by omega)]
      have Hfin := Lib.hid hfin
      clear hfin hc hn
      generalize PM.over s (l.take k) = m at *
      have hd : decide (k < l.length) = false := by simp; omega
      go_wp2
      go_ret
      exact ⟨by rw [← Hfin.out]; rfl, rfl⟩

theorem refsum_any (a : Option Addr) (len cap : Nat) (l : List Nat) (w : World) (hr : Rd w.heap.size w a len cap l) :
    Calls Try.prog 58 #[.slice a len cap] w fun e w' => e = .returned (.int .u32 (PM.over 0 l : Nat)) ∧ w' = w := by
  have h0 := rsOver_any 0 a len cap l w (by decide) hr
  have H0 := Lib.hid h0
  clear h0
  go_enter Try.func58, Try.ntmps58
  go_wp2_with (go_at_call 62; refine H0.out.mono ?_; rintro e w1 ⟨rfl, rfl⟩)
  go_ret
  exact ⟨rfl, rfl⟩

end Go.Proofs.Ytjdcnajppjamgaa.PW
