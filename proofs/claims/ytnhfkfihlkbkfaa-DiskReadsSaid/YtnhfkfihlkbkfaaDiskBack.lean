/-
  Contract of 'slices.Backward' over writes: an iterator over a list from behind.
-/
import Derived.RangeFuncNested
import Derived.RangeFuncBound
import Derived.RangeFuncCalls
import Derived.RangeFuncLeaves
import Derived.Shelf.Abstract
import Derived.Shelf.RegionOpen
import Derived.WalkKit
import Derived.OwnWalkIn
import Derived.TacticsInMore
import Derived.LoopNIn
import Derived.LoopIn
import Derived.Test.YtnhfkfihlkbkfaaDiskSmall
namespace Go.Proofs.Ytnhfkfihlkbkfaa.PW
open Go.RowKit Go.Shelf
open DK (Dv)
set_option linter.unusedVariables false
set_option maxRecDepth 100000

attribute [local go_sem] Oper.semAt_some

/-- What a round is handed: a place, and the write that stands there. -/
def backArgs (K : List Wr) (i : Fin K.length) : Array Value := #[.int .i64 (i.val : Int), .agg #[.int .i64 (K.getD i.val Wr.nil).n, (K.getD i.val Wr.nil).h.val]]

set_option maxRecDepth 100000 in
set_option maxHeartbeats 2000000 in
theorem back1_in (F : Fence) (n : Nat) (h7 : F.fn 79) (hro : F.round = none) (hn : 1 ≤ n) (l Bs n₀ b off len cap : Nat) (K : List Wr) (hlen : len = K.length) (hcap : len ≤ cap) (hs : len ≤ 9223372036854775807) (hb : b < n₀)
    (J Jx : List (Fin K.length) → World → Prop)
    (hY : ∀ pre x W, J pre W → pre.length < K.length → YieldAt F (n - 1) Try.prog l (backArgs K x) W fun e W' =>
      (e = .returned (.bool true) ∧ J (pre ++ [x]) W' ∧ Below n₀ W W') ∨ (e = .returned (.bool false) ∧ Jx (pre ++ [x]) W'))
    (W : World) (hBs : W.cell? ⟨Bs, 0, none⟩ = some (.slice (some ⟨b, off, none⟩) len cap)) (hBn : Bs < n₀)
    (hc : ∀ i, i < K.length → W.cell? ⟨b, off + i * 2, none⟩ = some (.int .i64 (K.getD i Wr.nil).n) ∧ W.cell? ⟨b, off + i * 2 + 1, none⟩ = some (K.getD i Wr.nil).h.val) (h0 : J [] W) :
    CallsIn F n Try.prog 79 #[.func (.yield l) #[] #[], .pointer (some ⟨Bs, 0, none⟩)] W fun e W' => (∃ v, e = .returned v) ∧
      ((∃ ys, (∀ j, j ∈ ys) ∧ J ys W') ∨ (∃ pre, (∃ pre0 x, pre = pre0 ++ [x] ∧ ∀ j : Fin K.length, x.val < j.val → j ∈ pre0) ∧ Jx pre W')) := by
  refine callsIn_of_wp Try.func79 rfl h7 ?_ hro
  simp only [Try.ntmps79, List.size_toArray, List.length_cons, List.length_nil, Nat.reduceAdd, Nat.reduceSub, Array.replicate_succ, Array.replicate_zero, List.push_toArray, List.append_toArray, List.nil_append, List.cons_append]
  have hl0 : (0 : Int) ≤ (len : Int) := Int.natCast_nonneg _
  have hl1 : (len : Int) ≤ 9223372036854775807 := by omega
  have Hlen := Lib.hid hlen
  have HC := Lib.hid hc
  have H0 := Lib.hid h0
  have HY := Lib.hid hY
  clear hlen hc h0 hY
  gi_wp2
  gi_loopw [3] (fun i wr => ∃ (k : Nat) (pre : List (Fin K.length)), k ≤ len ∧ i = .int .i64 ((k : Int) - 1) ∧ Hid (pre.length + k = len) ∧ Hid (∀ j : Fin K.length, k ≤ j.val → j ∈ pre) ∧ Hid (J pre wr) ∧ Below n₀ W wr)
    (fun i _ => (intOf i + 1).toNat)
  case atStart => exact ⟨len, [], Nat.le_refl _, rfl, Nat.zero_add _, (fun j hj => absurd j.2 (by have := Hlen.out; omega) : ∀ j : Fin K.length, len ≤ j.val → _), H0.out, Below.refl _ _⟩
  case round =>
    obtain ⟨k, pre, hk, rfl, hpl, hpm, hJs, hnx⟩ := hrel
    cases k with
    | zero =>
      gi_wp2
      go_end0
      exact ⟨⟨_, rfl⟩, .inl ⟨_, fun j => hpm.out j (Nat.zero_le _), hJs.out⟩⟩
    | succ q =>
      have e1 : (((q + 1 : Nat) : Int) - 1) = (q : Int) := by omega
      rw [e1]
      clear e1
      have hqK : q < K.length := by rw [← Hlen.out]; omega
      have cc := HC.out q hqK
      have c1 := (hnx.cell (p := ⟨b, off + q * 2, none⟩) hb).trans cc.1
      have c2 := (hnx.cell (p := ⟨b, off + q * 2 + 1, none⟩) hb).trans cc.2
      have c3 := (hnx.cell (p := ⟨Bs, 0, none⟩) hBn).trans hBs
      obtain ⟨fn, tmps, assign, body, hy, hR⟩ := HY.out pre ⟨q, hqK⟩ wr hJs.out (by have := Hlen.out; have := hpl.out; omega)
      simp only [backArgs] at hy
      have hq0 : q < len := by omega
      have hq1 : q < cap := by omega
      have HNX := Lib.hid hnx
      have step : Hid (∀ j : Fin K.length, q ≤ j.val → j ∈ pre ++ [(⟨q, hqK⟩ : Fin K.length)]) := fun j hj => by
        rcases Nat.lt_or_ge q j.val with h | h
        · exact List.mem_append.2 (.inl (hpm.out j h))
        · exact List.mem_append.2 (.inr (List.mem_singleton.2 (Fin.ext (by show j.val = q; omega))))
      have HK : Hid (∀ j : Fin K.length, q < j.val → j ∈ pre) := fun j hj => hpm.out j hj
      have HPL : Hid ((pre ++ [(⟨q, hqK⟩ : Fin K.length)]).length + q = len) := by show _ = _; have := hpl.out; simp; omega
      generalize hn3 : (K.getD q Wr.nil).n = m at *
      generalize hn4 : (K.getD q Wr.nil).h.val = hv at *
      have HR := Lib.hid hR
      clear hR cc hn3 hn4 hnx hpl
      gi_wp2
      refine HR.out.mono ?_
      rintro e W3 (⟨rfl, hJ3, hk3⟩ | ⟨rfl, hJx3⟩)
      · have HJ3 := Lib.hid hJ3
        have HK3 := Lib.hid hk3
        clear hJ3 hk3
        gi_wp2
        go_roundw
        case rel => exact ⟨q, _, by omega, rfl, HPL.out, step.out, HJ3.out, HNX.out.trans HK3.out⟩
        case measure => simp [intOf]
      · have HJ3 := Lib.hid hJx3
        clear hJx3
        gi_wp2
        refine bodyPost_ret (results_none rfl _ _ _) rfl ?_
        exact ⟨⟨_, rfl⟩, .inr ⟨_, ⟨pre, _, rfl, HK.out⟩, HJ3.out⟩⟩

set_option maxRecDepth 100000 in
set_option maxHeartbeats 1000000 in
theorem back1_nil_at (F : Fence) (n : Nat) (h7 : F.fn 79) (hro : F.round = none) (l Bs : Nat) (P : World → Prop) (W : World) (a : Option Addr) (cap : Nat) (hBs : W.cell? ⟨Bs, 0, none⟩ = some (.slice a 0 cap)) (h0 : P W) :
    CallsIn F n Try.prog 79 #[.func (.yield l) #[] #[], .pointer (some ⟨Bs, 0, none⟩)] W fun e W' => (∃ v, e = .returned v) ∧ P W' := by
  refine callsIn_of_wp Try.func79 rfl h7 ?_ hro
  simp only [Try.ntmps79, List.size_toArray, List.length_cons, List.length_nil, Nat.reduceAdd, Nat.reduceSub, Array.replicate_succ, Array.replicate_zero, List.push_toArray, List.append_toArray, List.nil_append, List.cons_append]
  have H0 := Lib.hid h0
  clear h0
  gi_wp2
  gi_loopw [3] (fun i wr => i = .int .i64 (-1) ∧ Hid (P wr)) (fun _ _ => 0)
  case atStart => exact ⟨rfl, H0⟩
  case round =>
    obtain ⟨rfl, hJs⟩ := hrel
    gi_wp2
    go_end0
    exact ⟨⟨_, rfl⟩, hJs.out⟩

/-- 'slices.Backward': the slice lies in a variable, the function value holds it. -/
theorem back_in (F : Fence) (n : Nat) (h5 : F.fn 62) (hro : F.round = none) (a : Option Addr) (len cap : Nat) (w : World) :
    CallsIn F n Try.prog 62 #[.slice a len cap] w fun e w' => e = .returned (.func (.func 79) #[] #[.pointer (some ⟨w.heap.size, 0, none⟩)]) ∧ w' = w.alloc (.cells #[.slice a len cap] 35) := by
  refine callsIn_of_wp Try.func62 rfl h5 ?_ hro
  simp only [Try.ntmps62, List.size_toArray, List.length_cons, List.length_nil, Nat.reduceAdd, Nat.reduceSub, Array.replicate_succ, Array.replicate_zero, List.push_toArray, List.append_toArray, List.nil_append, List.cons_append]
  gi_wp2
  go_ret
  exact ⟨rfl, rfl⟩

/-- What came of it when it ran out, when it was stopped. -/
def AllCame (K : List Wr) (ys : List (Fin K.length)) : Prop := ∀ j, j ∈ ys
def CutAt (K : List Wr) (pre : List (Fin K.length)) : Prop := ∃ pre0 x, pre = pre0 ++ [x] ∧ ∀ j : Fin K.length, x.val < j.val → j ∈ pre0

theorem back_stops (F : Fence) (n : Nat) (h7 : F.fn 79) (hro : F.round = none) (hn : 1 ≤ n) (Bs n₀ : Nat) (a : Option Addr) (len cap : Nat) (K : List Wr) (w : World) (hBn : Bs < n₀) (hn₀ : n₀ ≤ w.heap.size)
    (hc : w.cell? ⟨Bs, 0, none⟩ = some (.slice a len cap)) (hI : Rws n₀ w a len cap K) :
    SeqStopsK F n Try.prog 79 #[.pointer (some ⟨Bs, 0, none⟩)] (backArgs K) (Below n₀) (AllCame K) (CutAt K) K.length w := fun l J Jx W hW _ _ hY h0 => by
  have hc' := (hW.cell (p := ⟨Bs, 0, none⟩) (Nat.lt_of_lt_of_le hBn hn₀)).trans hc
  have hI' := hI.below (hW.mono hn₀)
  have hs := hI.small
  have hf := hI.fits
  have hl := hI.long
  unfold maxLen at hs
  by_cases hK : K = []
  · subst hK
    have hl0 : len = 0 := hl
    subst hl0
    exact (back1_nil_at F n h7 hro l Bs (J []) W a cap hc' h0).mono fun e W' ⟨he, hj⟩ => ⟨he, .inl ⟨[], fun j => j.elim0, hj⟩⟩
  · obtain ⟨b, off, rfl, hb, hcs⟩ := hI'.cells hK
    exact back1_in F n h7 hro hn l Bs n₀ b off len cap K hl (by omega) (by omega) hb J Jx hY W hc' hBn hcs h0
end Go.Proofs.Ytnhfkfihlkbkfaa.PW
