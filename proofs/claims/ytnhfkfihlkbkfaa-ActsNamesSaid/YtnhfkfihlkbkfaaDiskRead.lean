/-
  Contract of 'slices.Backward' over writes: an iterator over a list from behind.
  Contracts of layer 4: what is read of a device, what lasts; the program's.
-/
import Derived.RangeFuncNested
import Derived.RangeFuncBound
import Derived.RangeFuncCalls
import Derived.RangeFuncLeaves
import Derived.Shelf.Abstract
import Derived.Shelf.RegionOpen
import Derived.WalkKit
import Derived.OwnWalkIn
import Derived.TacticsInMore
import Derived.LoopNIn
import Derived.LoopIn
import Derived.Test.YtnhfkfihlkbkfaaDiskSmall
import Derived.Test.YtnhfkfihlkbkfaaDiskCodes
namespace Go.Proofs.Ytnhfkfihlkbkfaa.PW
open Go.RowKit Go.Shelf
open DK (Dv)
set_option linter.unusedVariables false
set_option maxRecDepth 100000

attribute [local go_sem] Oper.semAt_some

/-- What a round is handed: a place, and the write that stands there. -/
def backArgs (K : List Wr) (i : Fin K.length) : Array Value := #[.int .i64 (i.val : Int), .agg #[.int .i64 (K.getD i.val Wr.nil).n, (K.getD i.val Wr.nil).h.val]]

set_option maxRecDepth 100000 in
set_option maxHeartbeats 2000000 in
theorem back1_in (F : Fence) (n : Nat) (h7 : F.fn 79) (hro : F.round = none) (hn : 1 ≤ n) (l Bs n₀ b off len cap : Nat) (K : List Wr) (hlen : len = K.length) (hcap : len ≤ cap) (hs : len ≤ 9223372036854775807) (hb : b < n₀)
    (J Jx : List (Fin K.length) → World → Prop)
    (hY : ∀ pre x W, J pre W → pre.length < K.length → YieldAt F (n - 1) Try.prog l (backArgs K x) W fun e W' =>
      (e = .returned (.bool true) ∧ J (pre ++ [x]) W' ∧ Below n₀ W W') ∨ (e = .returned (.bool false) ∧ Jx (pre ++ [x]) W'))
    (W : World) (hBs : W.cell? ⟨Bs, 0, none⟩ = some (.slice (some ⟨b, off, none⟩) len cap)) (hBn : Bs < n₀)
    (hc : ∀ i, i < K.length → W.cell? ⟨b, off + i * 2, none⟩ = some (.int .i64 (K.getD i Wr.nil).n) ∧ W.cell? ⟨b, off + i * 2 + 1, none⟩ = some (K.getD i Wr.nil).h.val) (h0 : J [] W) :
    CallsIn F n Try.prog 79 #[.func (.yield l) #[] #[], .pointer (some ⟨Bs, 0, none⟩)] W fun e W' => (∃ v, e = .returned v) ∧
      ((∃ ys, (∀ j, j ∈ ys) ∧ J ys W') ∨ (∃ pre, (∃ pre0 x, pre = pre0 ++ [x] ∧ ∀ j : Fin K.length, x.val < j.val → j ∈ pre0) ∧ Jx pre W')) := by
  refine callsIn_of_wp Try.func79 rfl h7 ?_ hro
  simp only [Try.ntmps79, List.size_toArray, List.length_cons, List.length_nil, Nat.reduceAdd, Nat.reduceSub, Array.replicate_succ, Array.replicate_zero, List.push_toArray, List.append_toArray, List.nil_append, List.cons_append]
  have hl0 : (0 : Int) ≤ (len : Int) := Int.natCast_nonneg _
  have hl1 : (len : Int) ≤ 9223372036854775807 := by omega
  have Hlen := Lib.hid hlen
  have HC := Lib.hid hc
  have H0 := Lib.hid h0
  have HY := Lib.hid hY
  clear hlen hc h0 hY
  gi_wp2
  gi_loopw [3] (fun i wr => ∃ (k : Nat) (pre : List (Fin K.length)), k ≤ len ∧ i = .int .i64 ((k : Int) - 1) ∧ Hid (pre.length + k = len) ∧ Hid (∀ j : Fin K.length, k ≤ j.val → j ∈ pre) ∧ Hid (J pre wr) ∧ Below n₀ W wr)
    (fun i _ => (intOf i + 1).toNat)
  case atStart => exact ⟨len, [], Nat.le_refl _, rfl, Nat.zero_add _, (fun j hj => absurd j.2 (by have := Hlen.out; omega) : ∀ j : Fin K.length, len ≤ j.val → _), H0.out, Below.refl _ _⟩
  case round =>
    obtain ⟨k, pre, hk, rfl, hpl, hpm, hJs, hnx⟩ := hrel
    cases k with
    | zero =>
      gi_wp2
      go_end0
      exact ⟨⟨_, rfl⟩, .inl ⟨_, fun j => hpm.out j (Nat.zero_le _), hJs.out⟩⟩
    | succ q =>
      have e1 : (((q + 1 : Nat) : Int) - 1) = (q : Int) := by omega
      rw [e1]
      clear e1
      have hqK : q < K.length := by rw [← Hlen.out]; omega
      have cc := HC.out q hqK
      have c1 := (hnx.cell (p := ⟨b, off + q * 2, none⟩) hb).trans cc.1
      have c2 := (hnx.cell (p := ⟨b, off + q * 2 + 1, none⟩) hb).trans cc.2
      have c3 := (hnx.cell (p := ⟨Bs, 0, none⟩) hBn).trans hBs
      obtain ⟨fn, tmps, assign, body, hy, hR⟩ := HY.out pre ⟨q, hqK⟩ wr hJs.out (by have := Hlen.out; have := hpl.out; omega)
      simp only [backArgs] at hy
      have hq0 : q < len := by omega
      have hq1 : q < cap := by omega
      have HNX := Lib.hid hnx
      have step : Hid (∀ j : Fin K.length, q ≤ j.val → j ∈ pre ++ [(⟨q, hqK⟩ : Fin K.length)]) := fun j hj => by
        rcases Nat.lt_or_ge q j.val with h | h
        · exact List.mem_append.2 (.inl (hpm.out j h))
        · exact List.mem_append.2 (.inr (List.mem_singleton.2 (Fin.ext (by show j.val = q; omega))))
      have HK : Hid (∀ j : Fin K.length, q < j.val → j ∈ pre) := fun j hj => hpm.out j hj
      have HPL : Hid ((pre ++ [(⟨q, hqK⟩ : Fin K.length)]).length + q = len) := by show _ = _; have := hpl.out; simp; omega
      generalize hn3 : (K.getD q Wr.nil).n = m at *
      generalize hn4 : (K.getD q Wr.nil).h.val = hv at *
      have HR := Lib.hid hR
      clear hR cc hn3 hn4 hnx hpl
      gi_wp2
      refine HR.out.mono ?_
      rintro e W3 (⟨rfl, hJ3, hk3⟩ | ⟨rfl, hJx3⟩)
      · have HJ3 := Lib.hid hJ3
        have HK3 := Lib.hid hk3
        clear hJ3 hk3
        gi_wp2
        go_roundw
        case rel => exact ⟨q, _, by omega, rfl, HPL.out, step.out, HJ3.out, HNX.out.trans HK3.out⟩
        case measure => simp [intOf]
      · have HJ3 := Lib.hid hJx3
        clear hJx3
        gi_wp2
        refine bodyPost_ret (results_none rfl _ _ _) rfl ?_
        exact ⟨⟨_, rfl⟩, .inr ⟨_, ⟨pre, _, rfl, HK.out⟩, HJ3.out⟩⟩

set_option maxRecDepth 100000 in
set_option maxHeartbeats 1000000 in
theorem back1_nil_at (F : Fence) (n : Nat) (h7 : F.fn 79) (hro : F.round = none) (l Bs : Nat) (P : World → Prop) (W : World) (a : Option Addr) (cap : Nat) (hBs : W.cell? ⟨Bs, 0, none⟩ = some (.slice a 0 cap)) (h0 : P W) :
    CallsIn F n Try.prog 79 #[.func (.yield l) #[] #[], .pointer (some ⟨Bs, 0, none⟩)] W fun e W' => (∃ v, e = .returned v) ∧ P W' := by
  refine callsIn_of_wp Try.func79 rfl h7 ?_ hro
  simp only [Try.ntmps79, List.size_toArray, List.length_cons, List.length_nil, Nat.reduceAdd, Nat.reduceSub, Array.replicate_succ, Array.replicate_zero, List.push_toArray, List.append_toArray, List.nil_append, List.cons_append]
  have H0 := Lib.hid h0
  clear h0
  gi_wp2
  gi_loopw [3] (fun i wr => i = .int .i64 (-1) ∧ Hid (P wr)) (fun _ _ => 0)
  case atStart => exact ⟨rfl, H0⟩
  case round =>
    obtain ⟨rfl, hJs⟩ := hrel
    gi_wp2
    go_end0
    exact ⟨⟨_, rfl⟩, hJs.out⟩

/-- 'slices.Backward': the slice lies in a variable, the function value holds it. -/
theorem back_in (F : Fence) (n : Nat) (h5 : F.fn 62) (hro : F.round = none) (a : Option Addr) (len cap : Nat) (w : World) :
    CallsIn F n Try.prog 62 #[.slice a len cap] w fun e w' => e = .returned (.func (.func 79) #[] #[.pointer (some ⟨w.heap.size, 0, none⟩)]) ∧ w' = w.alloc (.cells #[.slice a len cap] 35) := by
  refine callsIn_of_wp Try.func62 rfl h5 ?_ hro
  simp only [Try.ntmps62, List.size_toArray, List.length_cons, List.length_nil, Nat.reduceAdd, Nat.reduceSub, Array.replicate_succ, Array.replicate_zero, List.push_toArray, List.append_toArray, List.nil_append, List.cons_append]
  gi_wp2
  go_ret
  exact ⟨rfl, rfl⟩

/-- What came of it when it ran out, when it was stopped. -/
def AllCame (K : List Wr) (ys : List (Fin K.length)) : Prop := ∀ j, j ∈ ys
def CutAt (K : List Wr) (pre : List (Fin K.length)) : Prop := ∃ pre0 x, pre = pre0 ++ [x] ∧ ∀ j : Fin K.length, x.val < j.val → j ∈ pre0

theorem back_stops (F : Fence) (n : Nat) (h7 : F.fn 79) (hro : F.round = none) (hn : 1 ≤ n) (Bs n₀ : Nat) (a : Option Addr) (len cap : Nat) (K : List Wr) (w : World) (hBn : Bs < n₀) (hn₀ : n₀ ≤ w.heap.size)
    (hc : w.cell? ⟨Bs, 0, none⟩ = some (.slice a len cap)) (hI : Rws n₀ w a len cap K) :
    SeqStopsK F n Try.prog 79 #[.pointer (some ⟨Bs, 0, none⟩)] (backArgs K) (Below n₀) (AllCame K) (CutAt K) K.length w := fun l J Jx W hW _ _ hY h0 => by
  have hc' := (hW.cell (p := ⟨Bs, 0, none⟩) (Nat.lt_of_lt_of_le hBn hn₀)).trans hc
  have hI' := hI.below (hW.mono hn₀)
  have hs := hI.small
  have hf := hI.fits
  have hl := hI.long
  unfold maxLen at hs
  by_cases hK : K = []
  · subst hK
    have hl0 : len = 0 := hl
    subst hl0
    exact (back1_nil_at F n h7 hro l Bs (J []) W a cap hc' h0).mono fun e W' ⟨he, hj⟩ => ⟨he, .inl ⟨[], fun j => j.elim0, hj⟩⟩
  · obtain ⟨b, off, rfl, hb, hcs⟩ := hI'.cells hK
    exact back1_in F n h7 hro hn l Bs n₀ b off len cap K hl (by omega) (by omega) hb J Jx hY W hc' hBn hcs h0
end Go.Proofs.Ytnhfkfihlkbkfaa.PW

namespace Go.Proofs.Ytnhfkfihlkbkfaa.PW
open Go.RowKit Go.Shelf
open DK (Dv)
set_option linter.unusedVariables false
set_option maxRecDepth 100000

attribute [local go_sem] Oper.semAt_some

/-- What a call answers that hands back a block and an error's number. -/
def TheBlk (w : World) (m : List Nat) (c : Nat) (e : Ending) (w' : World) : Prop :=
  (c = 0 ∧ NewBlk w m e w') ∨ (c ≠ 0 ∧ e = .returned (.tuple #[.slice none 0 0, .int .i64 (c : Int)]) ∧ Below w.heap.size w w')

theorem bx_own {β : Type} (B g : Nat) (cs : List Value) : OwnFrom B (fun (_ : β) W => Bx W g cs) := fun s X Y row hs hg hr => by
  refine Bx.grown hs hg (fun e => ?_)
  obtain ⟨_, o, ho, hc⟩ := hr g e
  obtain ⟨t, ht⟩ := hs
  rw [ht] at ho
  injection ho with ho
  subst ho
  cases hc

theorem keepsFrom_below {B : Nat} {W W' : World} (h : Below W.heap.size W W') : KeepsFrom B W W' :=
  ⟨h.size, fun k o _ hk _ => (h.block k (Array.getElem?_eq_some_iff.1 hk).1).trans hk⟩

/-- The frame behind the assignment to the loop's variable. -/
def readFrame (a : Option Addr) (n c : Nat) (a' : Option Addr) (n' c' : Nat) (dd : Bool) (m g g1 Bv : Nat) (x y : Value) : Act :=
  { tmps := #[.agg #[.slice a n c, .slice a' n' c', .bool dd], .int .i64 (m : Int), .pointer (some ⟨g, 0, none⟩), .pointer (some ⟨g + 1, 0, none⟩), .pointer (some ⟨g + 1 + 1, 0, none⟩), .pointer (some ⟨g + 1 + 1 + 1, 0, none⟩), .int .i64 0, undef, .pointer (some ⟨Bv, 0, none⟩),
      .agg #[.slice a n c, .slice a' n' c', .bool dd], .int .i64 (m : Int), .int .i64 0, .int .i64 0, .bool false, undef, .pointer (some ⟨g, 1, none⟩), .slice a' n' c', .func (.func 79) #[] #[.pointer (some ⟨g1, 0, none⟩)],
      x, y, undef, undef, undef, undef, undef, undef, undef, undef, undef, undef, undef, undef, undef], defers := [] }

/-- Between two rounds; when a round has left. -/
def ReadI (w : World) (B2 : Nat) (g : Nat) (dv : List Value) (m : Nat) (K : List Wr) (pre : List (Fin K.length)) (W : World) : Prop :=
  (Bx W g dv ∧ Bx W (g + 1) [.int .i64 (m : Int)] ∧ Bx W (g + 1 + 1) [.slice none 0 0] ∧ Bx W (g + 1 + 1 + 1) [.int .i64 0]) ∧ (∀ i ∈ pre, (K.getD i.val Wr.nil).n ≠ (m : Int)) ∧ Below w.heap.size w W ∧ B2 ≤ W.heap.size
def ReadX (w : World) (g : Nat) (m : Nat) (K : List Wr) (c : Code) (pre : List (Fin K.length)) (W : World) : Prop :=
  c = .ret ∧ ∃ pre0 x gb, pre = pre0 ++ [x] ∧ (∀ i ∈ pre0, (K.getD i.val Wr.nil).n ≠ (m : Int)) ∧ (K.getD x.val Wr.nil).n = (m : Int) ∧ w.heap.size ≤ gb ∧
    Bx W gb ((DK.fl (K.getD x.val Wr.nil).h.l).map bv) ∧ Bx W (g + 1 + 1) [.slice (some ⟨gb, 0, none⟩) 128 128] ∧ Bx W (g + 1 + 1 + 1) [.int .i64 0] ∧ Below w.heap.size w W
theorem readI_own (w : World) (B2 B g : Nat) (dv : List Value) (m : Nat) (K : List Wr) (hB : w.heap.size ≤ B) : OwnFrom B (ReadI w B2 g dv m K) := fun s X Y row hs hg hr =>
  ⟨⟨bx_own (β := Unit) B _ _ () X Y row hs.1.1 hg hr, bx_own (β := Unit) B _ _ () X Y row hs.1.2.1 hg hr, bx_own (β := Unit) B _ _ () X Y row hs.1.2.2.1 hg hr, bx_own (β := Unit) B _ _ () X Y row hs.1.2.2.2 hg hr⟩, hs.2.1,
    hs.2.2.1.grown hg hs.2.2.1.size (fun k e => Nat.le_trans hB (hr k e).1), Nat.le_trans hs.2.2.2 hg.size⟩
theorem readX_own (w : World) (B g : Nat) (m : Nat) (K : List Wr) (c : Code) (hB : w.heap.size ≤ B) : OwnFrom B (ReadX w g m K c) := fun s X Y row hs hg hr => by
  obtain ⟨hc, pre0, x, gb, h1, h2, h3, h4, h5, h6, h7, h8⟩ := hs
  exact ⟨hc, pre0, x, gb, h1, h2, h3, h4, bx_own (β := Unit) B _ _ () X Y row h5 hg hr, bx_own (β := Unit) B _ _ () X Y row h6 hg hr, bx_own (β := Unit) B _ _ () X Y row h7 hg hr,
    h8.grown hg h8.size (fun k e => Nat.le_trans hB (hr k e).1)⟩
theorem bx_putObj {W : World} {D g : Nat} {cs : List Value} {o : Obj} (h : Bx W g cs) (hK : W.heap[D]? = some (.deferred (some []))) : Bx (W.putObj D o) g cs :=
  bx_own (β := Unit) 0 g cs () W _ (some D) h (grownBy_putObj' W D o) (fun r e => by cases e; exact ⟨Nat.zero_le _, _, hK, rfl⟩)

/-- What the writes that wait say of a place. -/
theorem seen_all {K : List Wr} {D : Dv} {m : Nat} (hl : wlist K = D.ws) (ys : List (Fin K.length)) (hall : AllCame K ys) (hno : ∀ i ∈ ys, (K.getD i.val Wr.nil).n ≠ (m : Int)) : DK.seen D (m : Int) = DK.lies D (m : Int) := by
  unfold DK.seen
  apply DK.look_none
  intro p hp
  rw [← hl] at hp
  obtain ⟨x, hx, rfl⟩ := List.mem_map.1 hp
  obtain ⟨i, hi, rfl⟩ := List.mem_iff_getElem.1 hx
  have := hno ⟨i, hi⟩ (hall _)
  simpa [List.getD, hi] using this
theorem seen_cut {K : List Wr} {D : Dv} {m : Nat} (hl : wlist K = D.ws) (pre0 : List (Fin K.length)) (x : Fin K.length) (hall : ∀ j : Fin K.length, x.val < j.val → j ∈ pre0) (hno : ∀ i ∈ pre0, (K.getD i.val Wr.nil).n ≠ (m : Int)) (hx : (K.getD x.val Wr.nil).n = (m : Int)) :
    DK.seen D (m : Int) = DK.fl (K.getD x.val Wr.nil).h.l := by
  unfold DK.seen
  rw [← hl]
  have e : wlist K = wlist (K.take x.val) ++ ((K.getD x.val Wr.nil).n, (K.getD x.val Wr.nil).h.l) :: wlist (K.drop (x.val + 1)) := by
    have h1 : K = K.take x.val ++ K.getD x.val Wr.nil :: K.drop (x.val + 1) := by
      conv => lhs; rw [← List.take_append_drop x.val K]
      congr 1
      rw [List.drop_eq_getElem_cons x.2]
      simp [List.getD, x.2]
    exact (congrArg wlist h1).trans (wlist_append _ _)
  rw [e, DK.look_last _ _ _ _ _ hx]
  intro q hq
  obtain ⟨y, hy, rfl⟩ := List.mem_map.1 hq
  obtain ⟨i, hi, rfl⟩ := List.mem_iff_getElem.1 hy
  have hi' : x.val + 1 + i < K.length := by rw [List.length_drop] at hi; omega
  have := hno ⟨x.val + 1 + i, hi'⟩ (hall _ (by show x.val < x.val + 1 + i; omega))
  rw [List.getElem_drop]
  simpa [List.getD, hi'] using this

/-- What stands there when the function returns. -/
def ReadEnd (w : World) (Dd gb : Nat) (l : List Nat) (W : World) : Prop :=
  w.heap.size ≤ gb ∧ w.heap.size ≤ Dd ∧ W.heap[Dd]? = some (.deferred (some [])) ∧ Bx W gb (l.map bv) ∧ Bx W (w.heap.size + 1 + 1) [.slice (some ⟨gb, 0, none⟩) 128 128] ∧ Bx W (w.heap.size + 1 + 1 + 1) [.int .i64 0] ∧ Below w.heap.size w W
theorem ReadEnd.fin {w : World} {Dd gb : Nat} {l : List Nat} {W : World} (h : ReadEnd w Dd gb l W) :
    (W.putObj Dd (.deferred none)).cell? ⟨w.heap.size + 1 + 1, 0, none⟩ = some (.slice (some ⟨gb, 0, none⟩) 128 128) ∧ (W.putObj Dd (.deferred none)).cell? ⟨w.heap.size + 1 + 1 + 1, 0, none⟩ = some (.int .i64 0) ∧
    NewBlk w l (.returned (.tuple #[.slice (some ⟨gb, 0, none⟩) 128 128, .int .i64 0])) (W.putObj Dd (.deferred none)) := by
  obtain ⟨h1, h2, hK, h3, h4, h5, h6⟩ := h
  exact ⟨(bx_putObj h4 hK).one, (bx_putObj h5 hK).one, gb, rfl, h1, (bx_putObj h3 hK : Bx _ gb _), h6.trans (belowK_b (w := w) (Nat.le_refl _) W Dd _ _ h2 hK rfl rfl)⟩

set_option maxRecDepth 100000 in
set_option maxHeartbeats 2000000 in
theorem read_in (a : Option Addr) (n c : Nat) (a' : Option Addr) (n' c' : Nat) (D : Dv) (m : Nat) (w : World) (hr : DevAt w.heap.size w a n c a' n' c' D) (h0 : DK.rcode D (m : Int) = 0) :
    CallsIn Fence.wide 9 Try.prog 33 #[.agg #[.slice a n c, .slice a' n' c', .bool D.dead], .int .i64 (m : Int)] w (NewBlk w (DK.seen D (m : Int))) := by
  obtain ⟨H, K, hH, hK, hl1, hl2⟩ := hr.ex
  have CR : Hid (∀ w1, Below w.heap.size w w1 → Calls Try.prog 60 #[.agg #[.slice a n c, .slice a' n' c', .bool D.dead], .int .i64 (m : Int)] w1 fun e w' => e = .returned (.int .i64 0) ∧ Below w1.heap.size w1 w') := fun w1 hb => by
    have := readable_any a n c a' n' c' D (m : Int) w1 (hr.here hb)
    rw [h0] at this; exact this
  have Hr := Lib.hid hr
  have HK := Lib.hid hK
  have HL2 := Lib.hid hl2
  have H0 := Lib.hid h0
  clear hr hH hK hl1 hl2 h0 H
  obtain ⟨dd, hdd⟩ : ∃ dd, dd = D.dead := ⟨_, rfl⟩
  rw [← hdd] at CR ⊢
  clear hdd
  refine callsIn_of_wp_marks Try.func33 rfl trivial ?_ rfl
  simp only [Try.ntmps33, List.size_toArray, List.length_cons, List.length_nil, Nat.reduceAdd, Nat.reduceSub, Array.replicate_succ, Array.replicate_zero, List.push_toArray, List.append_toArray, List.nil_append, List.cons_append]
  gi_wp2_with fail
  have hb0 : Below w.heap.size w ((((w.alloc (.cells #[.slice a n c, .slice a' n' c', .bool dd] 37)).alloc (.cells #[.int .i64 (m : Int)] 3)).alloc (.cells #[.slice none 0 0] 31)).alloc (.cells #[.int .i64 0] 23)) :=
    ((((Below.refl _ _).alloc (Nat.le_refl _) _).alloc (by simp) _).alloc (by simp; omega) _).alloc (by simp; omega) _
  have bD := (((Bx.new w [.slice a n c, .slice a' n' c', .bool dd] 37).alloc (.cells #[.int .i64 (m : Int)] 3)).alloc (.cells #[.slice none 0 0] 31)).alloc (.cells #[.int .i64 0] 23)
  have bA := ((Bx.new (w.alloc (.cells #[.slice a n c, .slice a' n' c', .bool dd] 37)) [.int .i64 (m : Int)] 3).alloc (.cells #[.slice none 0 0] 31)).alloc (.cells #[.int .i64 0] 23)
  have bR := (Bx.new ((w.alloc (.cells #[.slice a n c, .slice a' n' c', .bool dd] 37)).alloc (.cells #[.int .i64 (m : Int)] 3)) [.slice none 0 0] 31).alloc (.cells #[.int .i64 0] 23)
  have bE := Bx.new (((w.alloc (.cells #[.slice a n c, .slice a' n' c', .bool dd] 37)).alloc (.cells #[.int .i64 (m : Int)] 3)).alloc (.cells #[.slice none 0 0] 31)) [.int .i64 0] 23
  simp only [World.size_alloc] at bA bR bE
  have hz0 : ((((w.alloc (.cells #[.slice a n c, .slice a' n' c', .bool dd] 37)).alloc (.cells #[.int .i64 (m : Int)] 3)).alloc (.cells #[.slice none 0 0] 31)).alloc (.cells #[.int .i64 0] 23)).heap.size = w.heap.size + 4 := by simp
  refine ⟨trivial, callsIn_wide.2 ((CR.out _ hb0).mono ?_)⟩
  rintro e w1 ⟨rfl, b1⟩
  replace bD := bD.here b1
  replace bA := bA.here b1
  replace bR := bR.here b1
  replace bE := bE.here b1
  have hz1 := b1.size
  rw [hz0] at hz1
  have hb1 := thence hb0 b1 (Nat.le_refl _)
  obtain ⟨d0, d1, d2⟩ := bD.three
  have BD := Lib.hid bD
  have BA := Lib.hid bA
  have BR := Lib.hid bR
  have BE := Lib.hid bE
  have HB1 := Lib.hid hb1
  have HZ1 := Lib.hid hz1
  clear bD bA bR bE hb0 b1 hb1 hz0 hz1 CR
  gi_wp2_with fail
  refine ⟨trivial, (back_in _ _ trivial rfl _ _ _ _).mono ?_⟩
  rintro e w2 ⟨rfl, rfl⟩
  gi_wp2_with fail
  have hmay : DK.may D = true := by
    have h0 := H0.out
    rcases Bool.eq_false_or_eq_true (DK.may D) with h | h
    · exact h
    · simp [DK.rcode, h] at h0
  have hmn : m < n := by
    have h0 := H0.out
    rcases Bool.eq_false_or_eq_true (DK.has D (m : Int)) with h | h
    · rw [DK.has_iff, ← Hr.out.long.1] at h; omega
    · simp [DK.rcode, h, hmay] at h0
  have HM := Lib.hid (DK.may_iff.1 hmay)
  clear hmay H0
  have bB := Bx.new w1 [.slice a' n' c'] 35
  have hb2 : Below w.heap.size w (w1.alloc (.cells #[.slice a' n' c'] 35)) := HB1.out.alloc HB1.out.size _
  have bD := BD.out.alloc (.cells #[.slice a' n' c'] 35)
  have bA := BA.out.alloc (.cells #[.slice a' n' c'] 35)
  have bR := BR.out.alloc (.cells #[.slice a' n' c'] 35)
  have bE := BE.out.alloc (.cells #[.slice a' n' c'] 35)
  have hz2 : (w1.alloc (.cells #[.slice a' n' c'] 35)).heap.size = w1.heap.size + 1 := by simp
  obtain ⟨W2, hW2⟩ : ∃ W2, w1.alloc (.cells #[.slice a' n' c'] 35) = W2 := ⟨_, rfl⟩
  rw [hW2] at bB bD bA bR bE hb2 hz2 ⊢
  clear hW2 BD BA BR BE d0 d1 d2
  have hlo : w.heap.size ≤ W2.heap.size := hb2.size
  have hz1 := HZ1.out
  have hK2 : Rws W2.heap.size W2 a' n' c' K := HK.out.here hb2
  refine wpIn_rangeFunc_ownH rfl (by omega) (gf := 79) (lb := #[.pointer (some ⟨w1.heap.size, 0, none⟩)]) rfl trivial (enters_of Try.func79 (by kernel_rfl) rfl)
    (back_stops Fence.wide 8 trivial rfl (by omega) w1.heap.size W2.heap.size a' n' c' K W2 (by omega) (Nat.le_refl _) bB.one hK2) belowK_t (belowK_b (Nat.le_refl _)) (Below.refl _ _) (fun _ => rfl)
    (ReadI w W2.heap.size w.heap.size [.slice a n c, .slice a' n' c', .bool dd] m K) (ReadX w w.heap.size m K) (readI_own _ _ _ _ _ _ _ hlo) (fun cc => readX_own _ _ _ _ _ cc hlo)
    ⟨⟨bD, bA, bR, bE⟩, (fun i hi => nomatch hi), hb2, Nat.le_refl _⟩
    (fun x act W => ∃ Bv, W2.heap.size ≤ Bv ∧ Bx W Bv [.int .i64 (K.getD x.val Wr.nil).n, (K.getD x.val Wr.nil).h.val] ∧ act = readFrame a n c a' n' c' dd m w.heap.size w1.heap.size Bv (.int .i64 (x.val : Int)) (.agg #[.int .i64 (K.getD x.val Wr.nil).n, (K.getD x.val Wr.nil).h.val]))
    (fun x act _ X Y row hs hg hr => by obtain ⟨Bv, h1, h2, h3⟩ := hs; exact ⟨Bv, h1, bx_own (β := Unit) _ _ _ () X Y row h2 hg hr, h3⟩)
    ?assign ?body ?done ?stop
  case assign =>
    rintro l pre x W K1 ⟨⟨e1, e2, e3, e4⟩, hno, hbw, hsz⟩ hK1
    have hq := hK1 (readFrame a n c a' n' c' dd m w.heap.size w1.heap.size W.heap.size (.int .i64 (x.val : Int)) (.agg #[.int .i64 (K.getD x.val Wr.nil).n, (K.getD x.val Wr.nil).h.val]))
      (W.alloc (.cells #[.int .i64 (K.getD x.val Wr.nil).n, (K.getD x.val Wr.nil).h.val] 64)) ((KeepsOthers.alloc _ _).from _) ((Below.refl _ W).alloc hsz _)
      ⟨⟨e1.alloc _, e2.alloc _, e3.alloc _, e4.alloc _⟩, hno, hbw.alloc hbw.size _, Nat.le_trans hsz (by simp)⟩ ⟨W.heap.size, hsz, Bx.new W [.int .i64 (K.getD x.val Wr.nil).n, (K.getD x.val Wr.nil).h.val] 64, rfl⟩
    have HQ := Lib.hid hq
    clear hK1 hq e1 e2 e3 e4 hno hbw hsz
    simp only [backArgs]
    generalize (K.getD x.val Wr.nil).n = z at *
    generalize hv : (K.getD x.val Wr.nil).h.val = y at *
    have hyy : ∃ p q r, y = .slice p q r := ⟨_, _, _, hv.symm⟩
    obtain ⟨p, q, r, rfl⟩ := hyy
    clear hv hz2
    gi_wp2
    exact HQ.out
  case body =>
    rintro l pre x act W hl ⟨r, hrr⟩ ⟨⟨e1, e2, e3, e4⟩, hno, hbw, hsz⟩ ⟨Bv, hBv, bX, rfl⟩ hlt
    have itm : (K.getD x.val Wr.nil).h.Rd W.heap.size W := ((HK.out.below hbw).each _ (mem_getD x.2)).mono hbw.size
    have hszd : DK.sized (K.getD x.val Wr.nil).h.l = true := by
      have h6 := HM.out.2.2.2.2.2 ((K.getD x.val Wr.nil).n, (K.getD x.val Wr.nil).h.l) (by rw [← HL2.out]; exact List.mem_map.2 ⟨_, mem_getD x.2, rfl⟩)
      simp only [DK.okW, Bool.and_eq_true] at h6
      exact h6.2
    have CH := Lib.hid (handed_any _ _ _ _ W itm hszd)
    clear itm hszd
    generalize hk : K.getD x.val Wr.nil = y at *
    obtain ⟨z, xa, xlen, xcap, xl⟩ := y
    have HKx := Lib.hid hk
    obtain ⟨x0, x1⟩ := bX.two
    have a0 := e2.one
    have E := Lib.hid (And.intro e1 (And.intro e2 (And.intro e3 e4)))
    have HNO := Lib.hid hno
    have HBW := Lib.hid hbw
    have HSZ := Lib.hid hsz
    have HZ2 := Lib.hid hz2
    have x1' : W.cell? ⟨Bv, 1, none⟩ = some (.slice xa xlen xcap) := x1
    clear e1 e2 e3 e4 hno hbw hsz bX hk hz2 x1 bE bR bA bD bB hb2 hK2 hrr hlt
    unfold readFrame
    have lt0 : w.heap.size + 1 + 1 < W.heap.size := E.out.2.2.1.lt
    have lt1 : w.heap.size + 1 + 1 + 1 < W.heap.size := E.out.2.2.2.lt
    by_cases he : z = (m : Int)
    · subst he
      gi_wp2_with fail
      refine ⟨trivial, CallsIn.inRound l (callsIn_wide.2 (CH.out.mono ?_))⟩
      rintro e w3 ⟨gb, rfl, hgb, blk, b3⟩
      have E3 := Lib.hid (And.intro (E.out.2.2.1.here b3) (E.out.2.2.2.here b3))
      obtain ⟨y0, y1⟩ := E3.out
      have y2 := y0.one
      have y3 := y1.one
      have f2 := y0.frozen 0
      have f3 := y1.frozen 0
      have B3 := Lib.hid b3
      have BK := Lib.hid blk
      have HGB := Lib.hid hgb
      clear y0 y1 b3 blk hgb CH
      gi_wp2_with fail
      refine ⟨(keepsFrom_below B3.out).trans (((KeepsOthers.setCell _ _ _).from _).trans ((KeepsOthers.setCell _ _ _).from _)), rfl, pre, x, gb, rfl, HNO.out, by rw [HKx.out], Nat.le_trans HBW.out.size HGB.out, ?_, ?_, ?_, ?_⟩
      · rw [HKx.out]
        have h1 := HGB.out
        exact Bx.other (Bx.other (BK.out : Bx w3 gb _) ⟨w.heap.size + 1 + 1, 0, none⟩ (by show w.heap.size + 1 + 1 ≠ gb; omega) _) ⟨w.heap.size + 1 + 1 + 1, 0, none⟩ (by show w.heap.size + 1 + 1 + 1 ≠ gb; omega) _
      · exact Bx.other (E3.out.1.set 0 _) ⟨w.heap.size + 1 + 1 + 1, 0, none⟩ (by show w.heap.size + 1 + 1 + 1 ≠ w.heap.size + 1 + 1; omega) _
      · exact (Bx.other E3.out.2 ⟨w.heap.size + 1 + 1, 0, none⟩ (by show w.heap.size + 1 + 1 ≠ w.heap.size + 1 + 1 + 1; omega) _).set 0 _
      · exact ((thence HBW.out B3.out (Nat.le_refl _)).setCell (p := ⟨w.heap.size + 1 + 1, 0, none⟩) (by show w.heap.size ≤ w.heap.size + 1 + 1; omega) _).setCell (p := ⟨w.heap.size + 1 + 1 + 1, 0, none⟩) (by show w.heap.size ≤ w.heap.size + 1 + 1 + 1; omega) _
    · have e0 : (z == (m : Int)) = false := by rw [beq_eq_false_iff_ne]; exact he
      have HE := Lib.hid he
      clear he CH
      gi_wp2_with fail
      refine ⟨KeepsFrom.refl _ _, Below.refl _ _, E.out, fun i hi => ?_, HBW.out, HSZ.out⟩
      rcases List.mem_append.1 hi with h | h
      · exact HNO.out i h
      · obtain rfl := List.mem_singleton.1 h
        rw [HKx.out]; exact HE.out
  case done =>
    rintro Dd ys W hD hall ⟨⟨e1, e2, e3, e4⟩, hno, hbw, hsz⟩ hK
    have SE := Lib.hid (seen_all (D := D) HL2.out ys hall hno)
    obtain ⟨b, off, xa, xlen, xcap, xl, rfl, hbB, hx, hcell, hxr⟩ := (Hr.out.below hbw).at m hmn
    have hszd : DK.sized xl = true := by
      have h6 := HM.out.2.2.2.2.1 xl (by rw [← hx]; exact mem_getD (by rw [← Hr.out.long.1]; exact hmn))
      simp only [DK.okB, Bool.and_eq_true] at h6
      exact h6.1
    have CH := Lib.hid (handed_any xa xlen xcap xl W (hxr.mono hbw.size) hszd)
    have HLI : Hid (DK.lies D (m : Int) = DK.fl xl) := by show _ = _; unfold DK.lies; rw [Int.toNat_natCast, hx]
    obtain ⟨d0, d1, d2⟩ := e1.three
    have a0 := e2.one
    have E := Lib.hid (And.intro e3 e4)
    have HBW := Lib.hid hbw
    have HZ2 := Lib.hid hz2
    have HKD := Lib.hid hK
    have lt0 : w.heap.size + 1 + 1 < W.heap.size := e3.lt
    have lt1 : w.heap.size + 1 + 1 + 1 < W.heap.size := e4.lt
    have hDW : Hid (w.heap.size ≤ Dd ∧ W2.heap.size ≤ Dd) := ⟨Nat.le_trans hlo hD, hD⟩
    have i0 : (0 : Int) ≤ (m : Int) := Int.natCast_nonneg _
    have i1 : (m : Int) < (n : Int) := by omega
    clear e1 e2 e3 e4 hno hbw hsz hx hxr hszd hz2 hK bE bR bA bD bB hb2 hK2 hall
    gi_wp2_with fail
    refine ⟨trivial, callsIn_wide.2 (CH.out.mono ?_)⟩
    rintro e w3 ⟨gb, rfl, hgb, blk, b3⟩
    have E3 := Lib.hid (And.intro (E.out.1.here b3) (E.out.2.here b3))
    obtain ⟨y0, y1⟩ := E3.out
    have y2 := y0.one
    have y3 := y1.one
    have f2 := y0.frozen 0
    have f3 := y1.frozen 0
    have B3 := Lib.hid b3
    have BK := Lib.hid blk
    have HGB := Lib.hid hgb
    clear y0 y1 b3 blk hgb CH
    gi_wp2_with fail
    have hf : Hid (_root_.Go.Proofs.Ytnhfkfihlkbkfaa.PW.ReadEnd w Dd gb (DK.seen D (m : Int)) ((w3.setCell ⟨w.heap.size + 1 + 1, 0, none⟩ (.slice (some ⟨gb, 0, none⟩) 128 128)).setCell ⟨w.heap.size + 1 + 1 + 1, 0, none⟩ (.int .i64 0))) := by
      have h1 := HGB.out
      refine ⟨Nat.le_trans HBW.out.size HGB.out, hDW.out.1, ?_, ?_, ?_, ?_, ?_⟩
      · have h3 := (keepsFrom_below (B := 0) B3.out).same Dd _ (Nat.zero_le _) HKD.out rfl
        exact (KeepsOthers.setCell _ _ _).same Dd _ ((KeepsOthers.setCell _ _ _).same Dd _ h3 rfl) rfl
      · rw [SE.out, HLI.out]
        exact Bx.other (Bx.other (BK.out : Bx w3 gb _) ⟨w.heap.size + 1 + 1, 0, none⟩ (by show w.heap.size + 1 + 1 ≠ gb; omega) _) ⟨w.heap.size + 1 + 1 + 1, 0, none⟩ (by show w.heap.size + 1 + 1 + 1 ≠ gb; omega) _
      · exact Bx.other (E3.out.1.set 0 _) ⟨w.heap.size + 1 + 1 + 1, 0, none⟩ (by show w.heap.size + 1 + 1 + 1 ≠ w.heap.size + 1 + 1; omega) _
      · exact (Bx.other E3.out.2 ⟨w.heap.size + 1 + 1, 0, none⟩ (by show w.heap.size + 1 + 1 ≠ w.heap.size + 1 + 1 + 1; omega) _).set 0 _
      · exact ((thence HBW.out B3.out (Nat.le_refl _)).setCell (p := ⟨w.heap.size + 1 + 1, 0, none⟩) (by show w.heap.size ≤ w.heap.size + 1 + 1; omega) _).setCell (p := ⟨w.heap.size + 1 + 1 + 1, 0, none⟩) (by show w.heap.size ≤ w.heap.size + 1 + 1 + 1; omega) _
    generalize (w3.setCell ⟨w.heap.size + 1 + 1, 0, none⟩ (.slice (some ⟨gb, 0, none⟩) 128 128)).setCell ⟨w.heap.size + 1 + 1 + 1, 0, none⟩ (.int .i64 0) = W9 at *
    refine ⟨by simp, .inl ⟨_, _, rfl, run_takeDeferred hf.out.2.2.1, ?_⟩⟩
    obtain ⟨z1, z2, z3⟩ := hf.out.fin
    refine ⟨.tuple #[.slice (some ⟨gb, 0, none⟩) 128 128, .int .i64 0], ?_, z3⟩
    clear hf d0 d1 d2 a0 hcell y2 y3 f2 f3
    simp [results, Try.f33, go_sem, z1, z2]
  case stop =>
    rintro Dd cc pre W hD hcut ⟨rfl, pre0, x, gb, rfl, hno, hx, hgb, b1, b2, b3, hbw⟩ hK
    obtain ⟨q0, q1, hq, hqa⟩ := hcut
    obtain ⟨hq1, hq2⟩ := List.append_inj' hq rfl
    injection hq2 with hq2
    subst hq1 hq2
    have SE := seen_cut (D := D) HL2.out _ _ hqa hno hx
    have hf : Hid (_root_.Go.Proofs.Ytnhfkfihlkbkfaa.PW.ReadEnd w Dd gb (DK.seen D (m : Int)) W) := ⟨hgb, Nat.le_trans hlo hD, hK, by rw [SE]; exact b1, b2, b3, hbw⟩
    clear hno hx hgb b1 b2 b3 hbw hqa SE hq hz2 bE bR bA bD bB hb2 hK2 hK
    gi_wp2_with fail
    refine ⟨by simp, .inl ⟨_, _, rfl, run_takeDeferred hf.out.2.2.1, ?_⟩⟩
    obtain ⟨z1, z2, z3⟩ := hf.out.fin
    refine ⟨.tuple #[.slice (some ⟨gb, 0, none⟩) 128 128, .int .i64 0], ?_, z3⟩
    clear hf
    simp [results, Try.f33, go_sem, z1, z2]

theorem rcode_has {D : Dv} {at_ : Int} (h : DK.rcode D at_ = 0) : DK.may D = true ∧ DK.has D at_ = true ∧ D.dead = false := by
  rcases Bool.eq_false_or_eq_true (DK.may D) with h1 | h1
  · rcases Bool.eq_false_or_eq_true (DK.has D at_) with h2 | h2
    · rcases Bool.eq_false_or_eq_true D.dead with h3 | h3
      · simp [DK.rcode, h1, h2, h3] at h
      · exact ⟨h1, h2, h3⟩
    · simp [DK.rcode, h1, h2] at h
  · simp [DK.rcode, h1] at h
theorem sized_at {D : Dv} (h : DK.may D = true) (m : Nat) (hm : m < D.bs.length) : DK.sized (D.bs.getD m []) = true := by
  have h6 := (DK.may_iff.1 h).2.2.2.2.1 (D.bs.getD m []) (mem_getD hm)
  simp only [DK.okB, Bool.and_eq_true] at h6
  exact h6.1

set_option maxRecDepth 100000 in
/-- What is read. -/
theorem read_any (a : Option Addr) (n c : Nat) (a' : Option Addr) (n' c' : Nat) (D : Dv) (at_ : Int) (w : World) (hr : DevAt w.heap.size w a n c a' n' c' D) :
    Calls Try.prog 33 #[.agg #[.slice a n c, .slice a' n' c', .bool D.dead], .int .i64 at_] w (TheBlk w (DK.seen D at_) (DK.rcode D at_)) := by
  by_cases h0 : DK.rcode D at_ = 0
  · obtain ⟨h1, h2, -⟩ := rcode_has h0
    rw [DK.has_iff] at h2
    obtain ⟨m, rfl⟩ := Int.eq_ofNat_of_zero_le h2.1
    exact (callsIn_wide.1 (read_in a n c a' n' c' D m w hr h0)).mono fun e w' h => .inl ⟨h0, h⟩
  · have hb0 : Below w.heap.size w ((((w.alloc (.cells #[.slice a n c, .slice a' n' c', .bool D.dead] 37)).alloc (.cells #[.int .i64 at_] 3)).alloc (.cells #[.slice none 0 0] 31)).alloc (.cells #[.int .i64 0] 23)) :=
      ((((Below.refl _ _).alloc (Nat.le_refl _) _).alloc (by simp) _).alloc (by simp; omega) _).alloc (by simp; omega) _
    have bR := (Bx.new ((w.alloc (.cells #[.slice a n c, .slice a' n' c', .bool D.dead] 37)).alloc (.cells #[.int .i64 at_] 3)) [.slice none 0 0] 31).alloc (.cells #[.int .i64 0] 23)
    have bE := Bx.new (((w.alloc (.cells #[.slice a n c, .slice a' n' c', .bool D.dead] 37)).alloc (.cells #[.int .i64 at_] 3)).alloc (.cells #[.slice none 0 0] 31)) [.int .i64 0] 23
    simp only [World.size_alloc] at bR bE
    have CR := Lib.hid (readable_any a n c a' n' c' D at_ _ (hr.here hb0))
    have BR := Lib.hid bR
    have BE := Lib.hid bE
    have HB := Lib.hid hb0
    have H0 := Lib.hid h0
    have e0 : ((DK.rcode D at_ : Int) == 0) = false := by rw [beq_eq_false_iff_ne]; omega
    clear bR bE hb0 hr h0
    generalize DK.rcode D at_ = q at *
    generalize D.dead = dd at *
    go_enter Try.func33, Try.ntmps33
    go_wp2_with fail
    refine CR.out.mono ?_
    rintro e w1 ⟨rfl, b1⟩
    have E3 := Lib.hid (And.intro (BR.out.here b1) (BE.out.here b1))
    obtain ⟨y0, y1⟩ := E3.out
    have y2 := y0.one
    have y3 := y1.one
    have f2 := y0.frozen 0
    have f3 := y1.frozen 0
    have B1 := Lib.hid (thence HB.out b1 (Nat.le_refl _))
    clear y0 y1 b1
    go_wp2_with fail
    have z1 := (Bx.other (E3.out.1.set 0 (.slice none 0 0)) ⟨w.heap.size + 1 + 1 + 1, 0, none⟩ (by show w.heap.size + 1 + 1 + 1 ≠ w.heap.size + 1 + 1; omega) (.int .i64 q)).one
    have z2 := ((Bx.other E3.out.2 ⟨w.heap.size + 1 + 1, 0, none⟩ (by show w.heap.size + 1 + 1 ≠ w.heap.size + 1 + 1 + 1; omega) (.slice none 0 0)).set 0 (.int .i64 q)).one
    exact bodyPost_ret (v := .tuple #[.slice none 0 0, .int .i64 q]) (by simp [results, Try.results33, go_sem, z1, z2]) rfl (.inr ⟨H0.out, rfl, (B1.out.setCell (p := ⟨w.heap.size + 1 + 1, 0, none⟩) (by show w.heap.size ≤ w.heap.size + 1 + 1; omega) _).setCell (p := ⟨w.heap.size + 1 + 1 + 1, 0, none⟩) (by show w.heap.size ≤ w.heap.size + 1 + 1 + 1; omega) _⟩)

set_option maxRecDepth 100000 in
/-- What lasts. -/
theorem lasting_any (a : Option Addr) (n c : Nat) (a' : Option Addr) (n' c' : Nat) (D : Dv) (at_ : Int) (w : World) (hr : DevAt w.heap.size w a n c a' n' c' D) :
    Calls Try.prog 31 #[.agg #[.slice a n c, .slice a' n' c', .bool D.dead], .int .i64 at_] w (TheBlk w (DK.lies D at_) (DK.rcode D at_)) := by
  have hb0 : Below w.heap.size w (w.alloc (.cells #[.slice a n c, .slice a' n' c', .bool D.dead] 37)) := (Below.refl _ _).alloc (Nat.le_refl _) _
  have hx := Bx.new w [.slice a n c, .slice a' n' c', .bool D.dead] 37
  have CR := Lib.hid (readable_any a n c a' n' c' D at_ _ (hr.here hb0))
  have HB := Lib.hid hb0
  have HX := Lib.hid hx
  have Hr := Lib.hid hr
  clear hb0 hx hr
  by_cases h0 : DK.rcode D at_ = 0
  · obtain ⟨h1, h2, -⟩ := rcode_has h0
    rw [DK.has_iff] at h2
    obtain ⟨m, rfl⟩ := Int.eq_ofNat_of_zero_le h2.1
    have hmn : m < n := by rw [Hr.out.long.1]; omega
    have hsz := sized_at h1 m (by omega)
    have HS := Lib.hid hsz
    have H0 := Lib.hid h0
    rw [h0] at CR
    have i0 : (0 : Int) ≤ (m : Int) := Int.natCast_nonneg _
    have i1 : (m : Int) < (n : Int) := by omega
    clear h1 h2 hsz h0
    generalize D.dead = dd at *
    go_enter Try.func31, Try.ntmps31
    go_wp2_with fail
    refine CR.out.mono ?_
    rintro e w1 ⟨rfl, b1⟩
    obtain ⟨c0, c1, c2⟩ := (HX.out.here b1).three
    have B1 := Lib.hid (thence HB.out b1 (Nat.le_refl _))
    obtain ⟨b, off, xa, xlen, xcap, xl, rfl, hbB, hxx, hcell, hxr⟩ := (Hr.out.below B1.out).at m hmn
    have CH := Lib.hid (handed_any xa xlen xcap xl w1 (hxr.mono B1.out.size) (by rw [← hxx]; exact HS.out))
    have HLI : Hid (DK.lies D (m : Int) = DK.fl xl) := by show _ = _; unfold DK.lies; rw [Int.toNat_natCast, hxx]
    clear b1 hxr hxx
    go_wp2_with fail
    refine CH.out.mono ?_
    rintro e w2 ⟨g, rfl, hg, hblk, b2⟩
    have HG := Lib.hid hg
    have HBK := Lib.hid hblk
    have B2 := Lib.hid (thence B1.out b2 (Nat.le_refl _))
    clear hg hblk b2 CH
    go_wp2_with fail
    go_ret2
    exact .inl ⟨H0.out, g, rfl, Nat.le_trans B1.out.size HG.out, by rw [HLI.out]; exact HBK.out, B2.out⟩
  · have H0 := Lib.hid h0
    have e0 : ((DK.rcode D at_ : Int) == 0) = false := by rw [beq_eq_false_iff_ne]; omega
    clear h0
    generalize DK.rcode D at_ = q at *
    generalize D.dead = dd at *
    go_enter Try.func31, Try.ntmps31
    go_wp2_with fail
    refine CR.out.mono ?_
    rintro e w1 ⟨rfl, b1⟩
    have B1 := Lib.hid (thence HB.out b1 (Nat.le_refl _))
    clear b1
    go_wp2_with fail
    go_ret2
    exact .inr ⟨H0.out, rfl, B1.out⟩
end Go.Proofs.Ytnhfkfihlkbkfaa.PW
