/-
  Layer 10: what the program's own Read answers.
-/
import Derived.Test.YtjdcnajppjamgaaSuperPuts
import Derived.Test.YtjdcnajppjamgaaInserts
import Derived.Test.YtjdcnajppjamgaaEqual
import Derived.Test.YtjdcnajppjamgaaSuperUnlike1
import Derived.Test.YtjdcnajppjamgaaLabelCalls
namespace Go.Proofs.Ytjdcnajppjamgaa.PW
open Go.RowKit
open SB (Sup)
set_option linter.unusedVariables false
set_option linter.unusedSimpArgs false
set_option maxRecDepth 100000


theorem suInt : Try.prog.underlying 3 = some (.int .i64) := Try.underlying3
/-- What is stored where, of those that have come. -/
def SuSeen (L : List (Addr × Value)) (seen : Array Nat) (g : Nat) (x t : Nat) : Prop := (∃ i v, L[i]? = some (⟨g, 0, none⟩, v) ∧ i ∈ seen) → x = t
theorem SuSeen.zero (L : List (Addr × Value)) (g x t : Nat) : SuSeen L #[] g x t := fun ⟨i, v, _, h⟩ => by simp at h
theorem SuSeen.more {L : List (Addr × Value)} {seen : Array Nat} {g x t : Nat} (h : SuSeen L seen g x t) {i : Nat} {y : Addr × Value} (hy : L[i]? = some y) (hne : y.1 ≠ ⟨g, 0, none⟩) : SuSeen L (seen.push i) g x t := fun ⟨k, v, hk, hm⟩ => by
  rcases Array.mem_push.1 hm with hm | rfl
  · exact h ⟨k, v, hk, hm⟩
  · rw [hy] at hk; injection hk with hk; subst hk; exact absurd rfl hne
theorem SuSeen.done (L : List (Addr × Value)) (seen : Array Nat) (g t : Nat) : SuSeen L seen g t t := fun _ => rfl
theorem SuSeen.all {L E : List (Addr × Value)} {seen : Array Nat} {g x t : Nat} {v : Value} (h : SuSeen L seen g x t) (hp : L.Perm E) (hm : ((⟨g, 0, none⟩ : Addr), v) ∈ E) (ha : ∀ i, i < L.length → i ∈ seen) : x = t := by
  obtain ⟨i, hi⟩ := List.mem_iff_getElem?.1 (hp.mem_iff.2 hm)
  exact h ⟨i, v, hi, ha i (List.getElem?_eq_some_iff.1 hi).1⟩

set_option maxHeartbeats 4000000 in
theorem suRead_go (a : Option Addr) (n c : Nat) (l : List Nat) (w : World) (hr : Rd w.heap.size w a n c l) (h0 : l.length = 0 ∨ l.length = 128) :
    Calls Try.prog 11 #[.slice a n c] w fun e w' => e = .returned (.tuple #[supV (SB.rd l).1, .int .i64 (((SB.rd l).2 : Nat) : Int)]) ∧ Below w.heap.size w w' := by
  have hmm := @run_makeMap Try.prog
  have info : (Try.prog.info? 3).map (fun i => (i.size, i.bytes)) = some (1, 8) := by kernel_rfl
  obtain ⟨ji, hji, hjs⟩ : ∃ i, Try.prog.info? 3 = some i ∧ i.size ≠ 0 := by
    cases hi : Try.prog.info? 3 with
    | none => rw [hi] at info; cases info
    | some i => rw [hi] at info; simp at info; exact ⟨i, rfl, by omega⟩
  have B0 : Hid (Below w.heap.size w (((((w.alloc (.cells #[.int .u32 0, .int .u32 0, .int .u32 0, .int .i64 0] 28)).alloc (.cells #[.int .i64 0] 3)).alloc (.cells #[.int .i64 0] 3)).alloc (.cells #[.int .i64 0] 3)).alloc (.cells #[.int .i64 0] 3))) := ((((((Below.refl _ _).alloc (Nat.le_refl _) _).alloc (by simp; try omega) _).alloc (by simp; try omega) _).alloc (by simp; try omega) _).alloc (by simp; try omega) _)
  have BR : Hid (Bx (((((w.alloc (.cells #[.int .u32 0, .int .u32 0, .int .u32 0, .int .i64 0] 28)).alloc (.cells #[.int .i64 0] 3)).alloc (.cells #[.int .i64 0] 3)).alloc (.cells #[.int .i64 0] 3)).alloc (.cells #[.int .i64 0] 3)) w.heap.size [.int .u32 0, .int .u32 0, .int .u32 0, .int .i64 0]) := ((((((((Bx.new w [.int .u32 0, .int .u32 0, .int .u32 0, .int .i64 0] 28).alloc _)).alloc _)).alloc _)).alloc _)
  have V1 : Hid (Bx (((((w.alloc (.cells #[.int .u32 0, .int .u32 0, .int .u32 0, .int .i64 0] 28)).alloc (.cells #[.int .i64 0] 3)).alloc (.cells #[.int .i64 0] 3)).alloc (.cells #[.int .i64 0] 3)).alloc (.cells #[.int .i64 0] 3)) (w.heap.size + 1) [.int .i64 0]) := by
    have h : Bx (((((w.alloc (.cells #[.int .u32 0, .int .u32 0, .int .u32 0, .int .i64 0] 28)).alloc (.cells #[.int .i64 0] 3)).alloc (.cells #[.int .i64 0] 3)).alloc (.cells #[.int .i64 0] 3)).alloc (.cells #[.int .i64 0] 3)) ((w.alloc (.cells #[.int .u32 0, .int .u32 0, .int .u32 0, .int .i64 0] 28))).heap.size [.int .i64 0] := ((((((Bx.new (w.alloc (.cells #[.int .u32 0, .int .u32 0, .int .u32 0, .int .i64 0] 28)) [.int .i64 0] 3).alloc _)).alloc _)).alloc _)
    have e : (w.alloc (.cells #[.int .u32 0, .int .u32 0, .int .u32 0, .int .i64 0] 28)).heap.size = w.heap.size + 1 := by simp
    rw [e] at h
    exact h
  have V2 : Hid (Bx (((((w.alloc (.cells #[.int .u32 0, .int .u32 0, .int .u32 0, .int .i64 0] 28)).alloc (.cells #[.int .i64 0] 3)).alloc (.cells #[.int .i64 0] 3)).alloc (.cells #[.int .i64 0] 3)).alloc (.cells #[.int .i64 0] 3)) (w.heap.size + 1 + 1) [.int .i64 0]) := by
    have h : Bx (((((w.alloc (.cells #[.int .u32 0, .int .u32 0, .int .u32 0, .int .i64 0] 28)).alloc (.cells #[.int .i64 0] 3)).alloc (.cells #[.int .i64 0] 3)).alloc (.cells #[.int .i64 0] 3)).alloc (.cells #[.int .i64 0] 3)) (((w.alloc (.cells #[.int .u32 0, .int .u32 0, .int .u32 0, .int .i64 0] 28)).alloc (.cells #[.int .i64 0] 3))).heap.size [.int .i64 0] := ((((Bx.new ((w.alloc (.cells #[.int .u32 0, .int .u32 0, .int .u32 0, .int .i64 0] 28)).alloc (.cells #[.int .i64 0] 3)) [.int .i64 0] 3).alloc _)).alloc _)
    have e : ((w.alloc (.cells #[.int .u32 0, .int .u32 0, .int .u32 0, .int .i64 0] 28)).alloc (.cells #[.int .i64 0] 3)).heap.size = w.heap.size + 1 + 1 := by simp
    rw [e] at h
    exact h
  have V3 : Hid (Bx (((((w.alloc (.cells #[.int .u32 0, .int .u32 0, .int .u32 0, .int .i64 0] 28)).alloc (.cells #[.int .i64 0] 3)).alloc (.cells #[.int .i64 0] 3)).alloc (.cells #[.int .i64 0] 3)).alloc (.cells #[.int .i64 0] 3)) (w.heap.size + 1 + 1 + 1) [.int .i64 0]) := by
    have h : Bx (((((w.alloc (.cells #[.int .u32 0, .int .u32 0, .int .u32 0, .int .i64 0] 28)).alloc (.cells #[.int .i64 0] 3)).alloc (.cells #[.int .i64 0] 3)).alloc (.cells #[.int .i64 0] 3)).alloc (.cells #[.int .i64 0] 3)) ((((w.alloc (.cells #[.int .u32 0, .int .u32 0, .int .u32 0, .int .i64 0] 28)).alloc (.cells #[.int .i64 0] 3)).alloc (.cells #[.int .i64 0] 3))).heap.size [.int .i64 0] := ((Bx.new (((w.alloc (.cells #[.int .u32 0, .int .u32 0, .int .u32 0, .int .i64 0] 28)).alloc (.cells #[.int .i64 0] 3)).alloc (.cells #[.int .i64 0] 3)) [.int .i64 0] 3).alloc _)
    have e : (((w.alloc (.cells #[.int .u32 0, .int .u32 0, .int .u32 0, .int .i64 0] 28)).alloc (.cells #[.int .i64 0] 3)).alloc (.cells #[.int .i64 0] 3)).heap.size = w.heap.size + 1 + 1 + 1 := by simp
    rw [e] at h
    exact h
  have V4 : Hid (Bx (((((w.alloc (.cells #[.int .u32 0, .int .u32 0, .int .u32 0, .int .i64 0] 28)).alloc (.cells #[.int .i64 0] 3)).alloc (.cells #[.int .i64 0] 3)).alloc (.cells #[.int .i64 0] 3)).alloc (.cells #[.int .i64 0] 3)) (w.heap.size + 1 + 1 + 1 + 1) [.int .i64 0]) := by
    have h : Bx (((((w.alloc (.cells #[.int .u32 0, .int .u32 0, .int .u32 0, .int .i64 0] 28)).alloc (.cells #[.int .i64 0] 3)).alloc (.cells #[.int .i64 0] 3)).alloc (.cells #[.int .i64 0] 3)).alloc (.cells #[.int .i64 0] 3)) (((((w.alloc (.cells #[.int .u32 0, .int .u32 0, .int .u32 0, .int .i64 0] 28)).alloc (.cells #[.int .i64 0] 3)).alloc (.cells #[.int .i64 0] 3)).alloc (.cells #[.int .i64 0] 3))).heap.size [.int .i64 0] := Bx.new ((((w.alloc (.cells #[.int .u32 0, .int .u32 0, .int .u32 0, .int .i64 0] 28)).alloc (.cells #[.int .i64 0] 3)).alloc (.cells #[.int .i64 0] 3)).alloc (.cells #[.int .i64 0] 3)) [.int .i64 0] 3
    have e : ((((w.alloc (.cells #[.int .u32 0, .int .u32 0, .int .u32 0, .int .i64 0] 28)).alloc (.cells #[.int .i64 0] 3)).alloc (.cells #[.int .i64 0] 3)).alloc (.cells #[.int .i64 0] 3)).heap.size = w.heap.size + 1 + 1 + 1 + 1 := by simp
    rw [e] at h
    exact h
  have HR := Lib.hid hr
  clear hr
  have HMB : Hid (Bytes (PK.wh l)) := PK.wh_bytes HR.out.byt
  have CT1 : Hid (∀ w1, Rd w1.heap.size w1 a n c l → Calls Try.prog 21 #[.slice a n c, .int .i64 1, .int .i64 4] w1 fun e w' => e = .returned (.tuple #[.int .i64 ((PK.tv (PK.wh l) 1 4 : Nat) : Int), .int .i64 0]) ∧ Below w1.heap.size w1 w') := fun w1 h => take_ok a n c l 1 4 w1 h ⟨h0, by decide, by decide, by decide, by decide⟩
  have CT2 : Hid (∀ w1, Rd w1.heap.size w1 a n c l → Calls Try.prog 21 #[.slice a n c, .int .i64 5, .int .i64 4] w1 fun e w' => e = .returned (.tuple #[.int .i64 ((PK.tv (PK.wh l) 5 4 : Nat) : Int), .int .i64 0]) ∧ Below w1.heap.size w1 w') := fun w1 h => take_ok a n c l 5 4 w1 h ⟨h0, by decide, by decide, by decide, by decide⟩
  have CT3 : Hid (∀ w1, Rd w1.heap.size w1 a n c l → Calls Try.prog 21 #[.slice a n c, .int .i64 9, .int .i64 4] w1 fun e w' => e = .returned (.tuple #[.int .i64 ((PK.tv (PK.wh l) 9 4 : Nat) : Int), .int .i64 0]) ∧ Below w1.heap.size w1 w') := fun w1 h => take_ok a n c l 9 4 w1 h ⟨h0, by decide, by decide, by decide, by decide⟩
  have CT4 : Hid (∀ w1, Rd w1.heap.size w1 a n c l → Calls Try.prog 21 #[.slice a n c, .int .i64 13, .int .i64 1] w1 fun e w' => e = .returned (.tuple #[.int .i64 ((PK.tv (PK.wh l) 13 1 : Nat) : Int), .int .i64 0]) ∧ Below w1.heap.size w1 w') := fun w1 h => take_ok a n c l 13 1 w1 h ⟨h0, by decide, by decide, by decide, by decide⟩
  obtain ⟨rv, hrv⟩ : ∃ x : Value, x = supV (SB.rd l).1 := ⟨_, rfl⟩
  obtain ⟨rc, hrc⟩ : ∃ x : Int, x = (((SB.rd l).2 : Nat) : Int) := ⟨_, rfl⟩
  rw [← hrv, ← hrc]
  have HPS : SB.parse (PK.wh l) = ⟨PK.tv (PK.wh l) 1 4, PK.tv (PK.wh l) 5 4, PK.tv (PK.wh l) 9 4, ((PK.tv (PK.wh l) 13 1 : Nat) : Int)⟩ := by unfold SB.parse; rw [LB.tv_one]
  have NO : Hid (SB.good (PK.wh l) = false → rv = .agg #[.int .u32 0, .int .u32 0, .int .u32 0, .int .i64 0] ∧ rc = 90) := fun hg => by rw [hrv, hrc, SB.rd_sum h0 hg]; exact ⟨rfl, rfl⟩
  have YES : Hid (SB.good (PK.wh l) = true → rv = supV (SB.parse (PK.wh l)) ∧ rc = 0) := fun hg => by rw [hrv, hrc, SB.rd_good h0 hg]; exact ⟨rfl, rfl⟩
  have GD : Hid (SB.good (PK.wh l) = ((SB.parse (PK.wh l)).may && decide (l = (SB.parse (PK.wh l)).block))) := by
    show _ = _
    unfold SB.good
    cases hm : (SB.parse (PK.wh l)).may with
    | false => rfl
    | true =>
      rw [Bool.true_and, Bool.true_and, decide_eq_decide]
      rcases h0 with h0 | h0
      · have e := List.eq_nil_of_length_eq_zero h0
        subst e
        constructor
        · intro h
          have h1 := SB.block_get (SB.parse (PK.wh [])) 0 (by decide)
          rw [h] at h1
          exact absurd h1 (by rw [PK.wh_get]; decide)
        · intro h
          have h1 := SB.block_length (SB.parse (PK.wh []))
          rw [← h] at h1
          cases h1
      · rw [PK.wh_full h0]
        exact ⟨fun h => h.symm, fun h => h.symm⟩
  rw [HPS] at YES GD
  have T1 : Hid (PK.tv (PK.wh l) 1 4 < 4294967296) := SB.tv_lt4 HMB.out 1
  have T2 : Hid (PK.tv (PK.wh l) 5 4 < 4294967296) := SB.tv_lt4 HMB.out 5
  have T3 : Hid (PK.tv (PK.wh l) 9 4 < 4294967296) := SB.tv_lt4 HMB.out 9
  clear hrv hrc h0 HPS
  generalize SB.good (PK.wh l) = gd at *
  generalize PK.wh l = m at *
  go_enter Try.func11, Try.ntmps11
  go_wp2_with fail
  generalize (((((w.alloc (.cells #[.int .u32 0, .int .u32 0, .int .u32 0, .int .i64 0] 28)).alloc (.cells #[.int .i64 0] 3)).alloc (.cells #[.int .i64 0] 3)).alloc (.cells #[.int .i64 0] 3)).alloc (.cells #[.int .i64 0] 3)) = W0 at *
  obtain ⟨g4, hg4⟩ : ∃ g, w.heap.size + 1 + 1 + 1 + 1 = g := ⟨_, rfl⟩
  rw [hg4] at V4 ⊢
  obtain ⟨g3, hg3⟩ : ∃ g, w.heap.size + 1 + 1 + 1 = g := ⟨_, rfl⟩
  rw [hg3] at V3 ⊢
  obtain ⟨g2, hg2⟩ : ∃ g, w.heap.size + 1 + 1 = g := ⟨_, rfl⟩
  rw [hg2] at V2 ⊢
  obtain ⟨g1, hg1⟩ : ∃ g, w.heap.size + 1 = g := ⟨_, rfl⟩
  rw [hg1] at V1 ⊢
  have ord : Hid (w.heap.size < g1 ∧ g1 < g2 ∧ g2 < g3 ∧ g3 < g4 ∧ g4 < W0.heap.size) := ⟨by omega, by omega, by omega, by omega, V4.out.lt⟩
  clear hg1 hg2 hg3 hg4
  refine wp_region_noPanic ?_
  refine PX.wp_region_y (fun w' => Below W0.heap.size W0 w') [] (by kernel_rfl) (Below.refl _ _).drew (fun hHeld => ?_)
  refine PX.wpAnyY_take (i := 1) (oi := ?_) (v := ?_) ?_ (by kernel_rfl) (by kernel_rfl) (by kernel_rfl) (by kernel_rfl) (by kernel_rfl) (fun _ _ _ h => h) (Or.inl ⟨?_, ?_⟩) (by assumption) ?_
  rotate_left 2
  · simp only [List.getElem?_toArray, List.getElem?_cons_succ, List.getElem?_cons_zero]; rfl
  · rfl
  · intro w hSw; (try dsimp only at hSw); go_simp <;> with_reducible rfl
  (try simp only [Act.put, List.setIfInBounds_toArray, List.set_cons_zero, List.set_cons_succ])
  refine PX.wpAnyY_take (i := 3) (oi := ?_) (v := ?_) ?_ (by kernel_rfl) (by kernel_rfl) (by kernel_rfl) (by kernel_rfl) (by kernel_rfl) (fun _ _ _ h => h) (Or.inl ⟨?_, ?_⟩) (by assumption) ?_
  rotate_left 2
  · simp only [List.getElem?_toArray, List.getElem?_cons_succ, List.getElem?_cons_zero]; rfl
  · rfl
  · intro w hSw; (try dsimp only at hSw); go_simp <;> with_reducible rfl
  (try simp only [Act.put, List.setIfInBounds_toArray, List.set_cons_zero, List.set_cons_succ])
  refine PX.wpAnyY_take (i := 5) (oi := ?_) (v := ?_) ?_ (by kernel_rfl) (by kernel_rfl) (by kernel_rfl) (by kernel_rfl) (by kernel_rfl) (fun _ _ _ h => h) (Or.inl ⟨?_, ?_⟩) (by assumption) ?_
  rotate_left 2
  · simp only [List.getElem?_toArray, List.getElem?_cons_succ, List.getElem?_cons_zero]; rfl
  · rfl
  · intro w hSw; (try dsimp only at hSw); go_simp <;> with_reducible rfl
  (try simp only [Act.put, List.setIfInBounds_toArray, List.set_cons_zero, List.set_cons_succ])
  refine PX.wpAnyY_take (i := 7) (oi := ?_) (v := ?_) ?_ (by kernel_rfl) (by kernel_rfl) (by kernel_rfl) (by kernel_rfl) (by kernel_rfl) (fun _ _ _ h => h) (Or.inl ⟨?_, ?_⟩) (by assumption) ?_
  rotate_left 2
  · simp only [List.getElem?_toArray, List.getElem?_cons_succ, List.getElem?_cons_zero]; rfl
  · rfl
  · intro w hSw; (try dsimp only at hSw); go_simp <;> with_reducible rfl
  (try simp only [Act.put, List.setIfInBounds_toArray, List.set_cons_zero, List.set_cons_succ])
  refine PX.wpAnyY_one (i := 0) (o := ?_) (by kernel_rfl) ?_ (fun Kq hKq => ?_)
  rotate_left
  · simp only [List.getElem?_toArray, List.getElem?_cons_succ, List.getElem?_cons_zero]; rfl
  go_simp
  refine hKq.out _ _ (((Below.refl _ _).alloc (Nat.le_refl _) _).drew) (fun hHeld => ?_)
  clear hKq Kq
  (try simp only [Act.put, List.setIfInBounds_toArray, List.set_cons_zero, List.set_cons_succ])
  refine PX.wpAnyY_literal (t := 57) (kt := 54) (te := 3) (et := 56) (j := ji) Try.underlying57 Try.underlying54 hji hjs [(2, (⟨g1, 0, none⟩ : Addr), .agg #[.int .i64 1, .int .i64 4]), (4, (⟨g2, 0, none⟩ : Addr), .agg #[.int .i64 5, .int .i64 4]), (6, (⟨g3, 0, none⟩ : Addr), .agg #[.int .i64 9, .int .i64 4]), (8, (⟨g4, 0, none⟩ : Addr), .agg #[.int .i64 13, .int .i64 1])] [2, 4, 6, 8] rfl W0.heap.size ?_ (by decide) ?_ (by kernel_rfl) ?_ ?_ (fuel := 2) rfl hHeld ?_ (fun wm L hperm hmap hHeld => ?_)
  · intro x hx
    simp only [List.mem_cons, List.not_mem_nil, or_false] at hx
    rcases hx with rfl | rfl | rfl | rfl <;> exact ⟨_, _, _, _, rfl, rfl, rfl, rfl, rfl, rfl, rfl⟩
  · have := ord.out
    simp
    (try omega)
  · intro w' hS x hx
    simp only [List.mem_cons, List.not_mem_nil, or_false] at hx
    rcases hx with rfl | rfl | rfl | rfl
    · obtain ⟨t, h⟩ := V1.out.below hS V1.out.lt; exact ⟨_, t, h⟩
    · obtain ⟨t, h⟩ := V2.out.below hS V2.out.lt; exact ⟨_, t, h⟩
    · obtain ⟨t, h⟩ := V3.out.below hS V3.out.lt; exact ⟨_, t, h⟩
    · obtain ⟨t, h⟩ := V4.out.below hS V4.out.lt; exact ⟨_, t, h⟩
  · intro w1 w2 h hg
    exact h.grown hg h.size (fun k hk => by cases hk; exact Nat.le_refl _)
  · exact (PX.PtrMap.made W0).drew
  have hR := PX.run_range_ptr Try.underlying57 hmap
  refine PX.wpAnyY_one (i := 9) (o := ?_) (by kernel_rfl) ?_ (fun Kq hKq => ?_)
  rotate_left
  · simp only [List.getElem?_toArray, List.getElem?_cons_succ, List.getElem?_cons_zero]; rfl
  go_simp
  refine hKq.out _ _ (hHeld) (fun hHeld => ?_)
  clear hKq Kq
  (try simp only [Act.put, List.setIfInBounds_toArray, List.set_cons_zero, List.set_cons_succ])
  refine PX.wpAnyY_one (i := 10) (o := ?_) (by kernel_rfl) ?_ (fun Kq hKq => ?_)
  rotate_left
  · simp only [List.getElem?_toArray, List.getElem?_cons_succ, List.getElem?_cons_zero]; rfl
  go_simp
  refine hKq.out _ _ (hHeld) (fun hHeld => ?_)
  clear hKq Kq
  (try simp only [Act.put, List.setIfInBounds_toArray, List.set_cons_zero, List.set_cons_succ])
  refine PX.wpAnyY_done (by kernel_rfl) ?_ _
  refine NoPanic.normal ?_
  go_wp2_with fail
  have hOld := hHeld
  replace hHeld := hHeld.alloc hHeld.size (.mapIter (some W0.heap.size) L.length #[] L.length)
  have hlow := B0.out.size
  have ho := ord.out
  have hI := PX.IterAt.begin hmap
  obtain ⟨r, hrd⟩ : ∃ g, wm.heap.size = g := ⟨_, rfl⟩
  have hr0 : W0.heap.size ≤ r := by rw [← hrd]; exact (show Below W0.heap.size W0 wm from by assumption).size
  rw [hrd] at hI ⊢
  clear hR hmap hrd hOld
  have HI := Lib.hid hI
  clear hI
  replace V1 := Lib.hid (V1.out.here hHeld)
  replace V2 := Lib.hid (V2.out.here hHeld)
  replace V3 := Lib.hid (V3.out.here hHeld)
  replace V4 := Lib.hid (V4.out.here hHeld)
  replace BR := Lib.hid (BR.out.here hHeld)
  replace B0 := Lib.hid (thence B0.out hHeld (Nat.le_refl _))
  have HP := Lib.hid hperm
  clear hperm
  generalize wm.alloc (.mapIter (some W0.heap.size) L.length #[] L.length) = W1 at *
  obtain ⟨b, hbd⟩ : ∃ g, W0.heap.size = g := ⟨_, rfl⟩
  rw [hbd] at HI hr0 ho ord
  clear hbd
  skip
  go_loopw [] (fun wr => ∃ (seen : Array Nat) (x1 x2 x3 x4 : Nat), PX.IterAt wr r b L seen ∧ Bx wr g1 [.int .i64 (x1 : Int)] ∧ Bx wr g2 [.int .i64 (x2 : Int)] ∧ Bx wr g3 [.int .i64 (x3 : Int)] ∧ Bx wr g4 [.int .i64 (x4 : Int)] ∧ SuSeen L seen g1 x1 (PK.tv m 1 4) ∧ SuSeen L seen g2 x2 (PK.tv m 5 4) ∧ SuSeen L seen g3 x3 (PK.tv m 9 4) ∧ SuSeen L seen g4 x4 (PK.tv m 13 1) ∧ Bx wr w.heap.size [.int .u32 0, .int .u32 0, .int .u32 0, .int .i64 0] ∧ Below w.heap.size w wr) (fun wr => wr.rangeLeft b r)
  case atStart => exact ⟨#[], 0, 0, 0, 0, HI.out, V1.out, V2.out, V3.out, V4.out, SuSeen.zero _ _ _ _, SuSeen.zero _ _ _ _, SuSeen.zero _ _ _ _, SuSeen.zero _ _ _ _, BR.out, B0.out⟩
  case round =>
    clear HI BR B0 V1 V2 V3 V4
    obtain ⟨seen, x1, x2, x3, x4, hI, hv1, hv2, hv3, hv4, hs1, hs2, hs3, hs4, hbr, hb⟩ := hrel
    have HI := Lib.hid hI
    have BR := Lib.hid hbr
    have B1 := Lib.hid hb
    have RB := Lib.hid ((HR.out.below hb).mono hb.size)
    have V1 := Lib.hid hv1
    have S1 := Lib.hid hs1
    have V2 := Lib.hid hv2
    have S2 := Lib.hid hs2
    have V3 := Lib.hid hv3
    have S3 := Lib.hid hs3
    have V4 := Lib.hid hv4
    have S4 := Lib.hid hs4
    clear hI hbr hb hv1 hs1 hv2 hs2 hv3 hs3 hv4 hs4
    go_wp2_with (first
      | (at_next; refine PX.wpList_next_ptr _ rfl _ rfl r b L seen rfl HI.out ?_ ?_)
      | go_in)
    · intro hall
      obtain rfl := S1.out.all HP.out (v := .agg #[.int .i64 1, .int .i64 4]) (by simp) hall
      obtain rfl := S2.out.all HP.out (v := .agg #[.int .i64 5, .int .i64 4]) (by simp) hall
      obtain rfl := S3.out.all HP.out (v := .agg #[.int .i64 9, .int .i64 4]) (by simp) hall
      obtain rfl := S4.out.all HP.out (v := .agg #[.int .i64 13, .int .i64 1]) (by simp) hall
      clear hall S1 S2 S3 S4 HI CT1 CT2 CT3 CT4 HP ord ho hr0 HMB hmm info hji hjs
      generalize PK.tv m 1 4 = id at *
      generalize PK.tv m 5 4 = age at *
      generalize PK.tv m 9 4 = seq at *
      generalize PK.tv m 13 1 = tl at *
      have p1 : IntKind.u32.wrap (id : Int) = (id : Int) := by rw [IntKind.wrap_u32']; have := T1.out; omega
      have p2 : IntKind.u32.wrap (age : Int) = (age : Int) := by rw [IntKind.wrap_u32']; have := T2.out; omega
      have p3 : IntKind.u32.wrap (seq : Int) = (seq : Int) := by rw [IntKind.wrap_u32']; have := T3.out; omega
      have cv1 := V1.out.one
      have lv1 := V1.out.lt
      have cv2 := V2.out.one
      have lv2 := V2.out.lt
      have cv3 := V3.out.one
      have lv3 := V3.out.lt
      have cv4 := V4.out.one
      have lv4 := V4.out.lt
      have hz : Below wr.heap.size wr (wr.alloc (.cells #[.int .u32 (id : Int), .int .u32 (age : Int), .int .u32 (seq : Int), .int .i64 (tl : Int)] 28)) := (Below.refl _ _).alloc (Nat.le_refl _) _
      have BL : Hid (Bx (wr.alloc (.cells #[.int .u32 (id : Int), .int .u32 (age : Int), .int .u32 (seq : Int), .int .i64 (tl : Int)] 28)) wr.heap.size [.int .u32 (id : Int), .int .u32 (age : Int), .int .u32 (seq : Int), .int .i64 (tl : Int)]) := Bx.new wr [.int .u32 (id : Int), .int .u32 (age : Int), .int .u32 (seq : Int), .int .i64 (tl : Int)] 28
      replace BR := Lib.hid (BR.out.here hz)
      replace RB := Lib.hid (RB.out.here hz)
      replace B1 := Lib.hid (thence B1.out hz (Nat.le_refl _))
      clear hz
      go_wp2_with fail
      generalize wr.alloc (.cells #[.int .u32 (id : Int), .int .u32 (age : Int), .int .u32 (seq : Int), .int .i64 (tl : Int)] 28) = W5 at *
      obtain ⟨gl, hgl⟩ : ∃ g, wr.heap.size = g := ⟨_, rfl⟩
      rw [hgl] at BL ⊢
      clear hgl V1 V2 V3 V4 cv1 cv2 cv3 cv4 lv1 lv2 lv3 lv4 p1 p2 p3 T2 T3 HR
      obtain ⟨d0, d1, d2, d3⟩ := BL.out.four'
      have ltBL := BL.out.lt
      clear d0 d1 d2 d3 ltBL
      cases hm : Sup.may ⟨id, age, seq, (tl : Int)⟩ with
      | false =>
        have CW := Lib.hid (fun w1 => suWrite_no id age seq (tl : Int) w1 T1.out hm)
        have hg := GD.out
        rw [hm] at hg
        obtain ⟨e1, e2⟩ := NO.out (by rw [hg]; rfl)
        subst e1 e2
        clear NO YES GD hm hg T1
        obtain ⟨d0, d1, d2, d3⟩ := BL.out.four'
        have ltBL := BL.out.lt
        (with_reducible refine (CW.out _).mono ?_)
        rintro e y2 ⟨a1, k1, rfl, -, b2⟩
        clear d0 d1 d2 d3 ltBL
        replace BR := Lib.hid (BR.out.here b2)
        replace BL := Lib.hid (BL.out.here b2)
        replace RB := Lib.hid (RB.out.here b2)
        have B2 := Lib.hid (thence B1.out b2 (Nat.le_refl _))
        clear b2 B1
        obtain ⟨d0, d1, d2, d3⟩ := BL.out.four'
        have ltBL := BL.out.lt
        have lr := BR.out.lt
        obtain ⟨r0, r1, r2, r3⟩ := BR.out.four'
        have fr0 := BR.out.frozen 0
        have fr1 := BR.out.frozen 1
        have fr2 := BR.out.frozen 2
        have fr3 := BR.out.frozen 3
        go_wp2_with fail
        have hb := ((((B2.out.setCell (p := ⟨w.heap.size, 0, none⟩) (Nat.le_refl _) (.int .u32 0)).setCell (p := ⟨w.heap.size, 1, none⟩) (Nat.le_refl _) (.int .u32 0)).setCell (p := ⟨w.heap.size, 2, none⟩) (Nat.le_refl _) (.int .u32 0)).setCell (p := ⟨w.heap.size, 3, none⟩) (Nat.le_refl _) (.int .i64 0))
        exact bodyPost_ret (v := .tuple #[.agg #[.int .u32 0, .int .u32 0, .int .u32 0, .int .i64 0], .int .i64 90]) (by simp [results, Try.results11, go_sem, lr, r0, r1, r2, r3]) rfl ⟨rfl, hb⟩
      | true =>
        have CW := Lib.hid (fun w1 => suWrite_yes id age seq (tl : Int) w1 T1.out (SB.may_iff.1 hm))
        rw [hm] at GD
        have GE : Hid (gd = decide (l = Sup.block ⟨id, age, seq, (tl : Int)⟩)) := by show _ = _; rw [GD.out]; rfl
        generalize Sup.block ⟨id, age, seq, (tl : Int)⟩ = M at *
        clear GD T1 hm
        obtain ⟨d0, d1, d2, d3⟩ := BL.out.four'
        have ltBL := BL.out.lt
        (with_reducible refine (CW.out _).mono ?_)
        rintro e y2 ⟨a1, k1, rfl, hM, -, b2⟩
        clear d0 d1 d2 d3 ltBL
        replace BR := Lib.hid (BR.out.here b2)
        replace BL := Lib.hid (BL.out.here b2)
        replace RB := Lib.hid (RB.out.here b2)
        have RM := Lib.hid (hM)
        have B2 := Lib.hid (thence B1.out b2 (Nat.le_refl _))
        clear b2 B1
        obtain ⟨d0, d1, d2, d3⟩ := BL.out.four'
        have ltBL := BL.out.lt
        have CQ := Lib.hid (fun w1 hr hq => bytesEqual_any a n c l a1 128 k1 M w1 hr hq)
        rw [← GE.out] at CQ
        clear GE CW hM
        go_wp2_with fail
        (with_reducible refine (CQ.out _ RB.out RM.out).mono ?_)
        rintro e y3 ⟨rfl, b3⟩
        clear d0 d1 d2 d3 ltBL
        replace BR := Lib.hid (BR.out.here b3)
        replace BL := Lib.hid (BL.out.here b3)
        replace RB := Lib.hid (RB.out.here b3)
        replace RM := Lib.hid (RM.out.here b3)
        have B3 := Lib.hid (thence B2.out b3 (Nat.le_refl _))
        clear b3 B2
        obtain ⟨d0, d1, d2, d3⟩ := BL.out.four'
        have ltBL := BL.out.lt
        clear CQ RB RM
        have lr := BR.out.lt
        obtain ⟨r0, r1, r2, r3⟩ := BR.out.four'
        have fr0 := BR.out.frozen 0
        have fr1 := BR.out.frozen 1
        have fr2 := BR.out.frozen 2
        have fr3 := BR.out.frozen 3
        cases gd with
        | false =>
          obtain ⟨e1, e2⟩ := NO.out rfl
          subst e1 e2
          clear NO YES
          go_wp2_with fail
          have hb := ((((B3.out.setCell (p := ⟨w.heap.size, 0, none⟩) (Nat.le_refl _) (.int .u32 0)).setCell (p := ⟨w.heap.size, 1, none⟩) (Nat.le_refl _) (.int .u32 0)).setCell (p := ⟨w.heap.size, 2, none⟩) (Nat.le_refl _) (.int .u32 0)).setCell (p := ⟨w.heap.size, 3, none⟩) (Nat.le_refl _) (.int .i64 0))
          exact bodyPost_ret (v := .tuple #[.agg #[.int .u32 0, .int .u32 0, .int .u32 0, .int .i64 0], .int .i64 90]) (by simp [results, Try.results11, go_sem, lr, r0, r1, r2, r3]) rfl ⟨rfl, hb⟩
        | true =>
          obtain ⟨e1, e2⟩ := YES.out rfl
          have e3 : rv = .agg #[.int .u32 (id : Int), .int .u32 (age : Int), .int .u32 (seq : Int), .int .i64 (tl : Int)] := e1
          clear e1
          subst e3 e2
          clear NO YES
          go_wp2_with fail
          have hb := ((((B3.out.setCell (p := ⟨w.heap.size, 0, none⟩) (Nat.le_refl _) (.int .u32 (id : Int))).setCell (p := ⟨w.heap.size, 1, none⟩) (Nat.le_refl _) (.int .u32 (age : Int))).setCell (p := ⟨w.heap.size, 2, none⟩) (Nat.le_refl _) (.int .u32 (seq : Int))).setCell (p := ⟨w.heap.size, 3, none⟩) (Nat.le_refl _) (.int .i64 (tl : Int)))
          exact bodyPost_ret (v := .tuple #[.agg #[.int .u32 (id : Int), .int .u32 (age : Int), .int .u32 (seq : Int), .int .i64 (tl : Int)], .int .i64 0]) (by simp [results, Try.results11, go_sem, lr, r0, r1, r2, r3, d0, d1, d2, d3, ltBL]) rfl ⟨rfl, hb⟩
    · intro i xa xv w1 hx hns hI hg hsz hlt hen
      have hxm := HP.out.mem_iff.1 (List.mem_of_getElem? hx)
      simp only [List.map_cons, List.map_nil, List.mem_cons, List.not_mem_nil, or_false, Prod.mk.injEq] at hxm
      have LT := Lib.hid hlt
      have HI1 := Lib.hid hI
      replace V1 := Lib.hid (V1.out.grown hg (by simp; try omega))
      replace V2 := Lib.hid (V2.out.grown hg (by simp; try omega))
      replace V3 := Lib.hid (V3.out.grown hg (by simp; try omega))
      replace V4 := Lib.hid (V4.out.grown hg (by simp; try omega))
      replace BR := Lib.hid (BR.out.grown hg (by simp; try omega))
      replace B1 := Lib.hid (B1.out.grown hg B1.out.size (fun k hk => by cases hk; omega))
      replace RB := Lib.hid ((HR.out.below B1.out).mono B1.out.size)
      clear hlt hI hg hsz HI
      rcases hxm with ⟨rfl, rfl⟩ | ⟨rfl, rfl⟩ | ⟨rfl, rfl⟩ | ⟨rfl, rfl⟩
      · have EN := hen
        clear hen
        have hen := EN
        clear EN
        go_wp2_with fail
        have hz : Below w1.heap.size w1 (w1.alloc (.cells #[.int .i64 1, .int .i64 4] 56)) := (Below.refl _ _).alloc (Nat.le_refl _) _
        have hI := HI1.out.here hz
        replace V1 := Lib.hid (V1.out.here hz)
        replace V2 := Lib.hid (V2.out.here hz)
        replace V3 := Lib.hid (V3.out.here hz)
        replace V4 := Lib.hid (V4.out.here hz)
        replace BR := Lib.hid (BR.out.here hz)
        replace B1 := Lib.hid (thence B1.out hz (Nat.le_refl _))
        replace RB := Lib.hid (RB.out.here hz)
        have BN : Hid (Bx (w1.alloc (.cells #[.int .i64 1, .int .i64 4] 56)) w1.heap.size [.int .i64 1, .int .i64 4]) := Bx.new w1 [.int .i64 1, .int .i64 4] 56
        have LT2 : Hid ((w1.alloc (.cells #[.int .i64 1, .int .i64 4] 56)).rangeLeft b r < wr.rangeLeft b r) := by rw [hI.left, ← HI1.out.left]; exact LT.out
        replace HI1 := Lib.hid hI
        clear hz hI hen LT
        generalize w1.alloc (.cells #[.int .i64 1, .int .i64 4] 56) = W2 at *
        (with_reducible refine (CT1.out _ RB.out).mono ?_)
        rintro e w3 ⟨rfl, b3⟩
        have hI := HI1.out.here b3
        replace V1 := Lib.hid (V1.out.here b3)
        replace V2 := Lib.hid (V2.out.here b3)
        replace V3 := Lib.hid (V3.out.here b3)
        replace V4 := Lib.hid (V4.out.here b3)
        replace BR := Lib.hid (BR.out.here b3)
        replace B1 := Lib.hid (thence B1.out b3 (Nat.le_refl _))
        have LT3 : Hid (w3.rangeLeft b r < wr.rangeLeft b r) := by rw [hI.left, ← HI1.out.left]; exact LT2.out
        replace HI1 := Lib.hid hI
        clear b3 hI LT2 RB BN
        have cv := V1.out.one
        have fv := V1.out.frozen 0
        have lv := V1.out.lt
        go_wp2_with fail
        go_roundw
        case rel => exact ⟨seen.push i, PK.tv m 1 4, x2, x3, x4, HI1.out.set ⟨g1, 0, none⟩ _ (by simp; try omega) (by simp; try omega), V1.out.set 0 _, V2.out.other ⟨g1, 0, none⟩ (by simp; try omega) _, V3.out.other ⟨g1, 0, none⟩ (by simp; try omega) _, V4.out.other ⟨g1, 0, none⟩ (by simp; try omega) _, SuSeen.done _ _ _ _, S2.out.more hx (by simp; try omega), S3.out.more hx (by simp; try omega), S4.out.more hx (by simp; try omega), BR.out.other ⟨g1, 0, none⟩ (by simp; try omega) _, B1.out.setCell (p := ⟨g1, 0, none⟩) (by simp; try omega) _⟩
        case measure => rw [(HI1.out.set ⟨g1, 0, none⟩ (.int .i64 ((PK.tv m 1 4 : Nat) : Int)) (by simp; try omega) (by simp; try omega)).left, ← HI1.out.left]; exact LT3.out
      · have EN := hen
        clear hen
        have hen := EN
        clear EN
        go_wp2_with fail
        have hz : Below w1.heap.size w1 (w1.alloc (.cells #[.int .i64 5, .int .i64 4] 56)) := (Below.refl _ _).alloc (Nat.le_refl _) _
        have hI := HI1.out.here hz
        replace V1 := Lib.hid (V1.out.here hz)
        replace V2 := Lib.hid (V2.out.here hz)
        replace V3 := Lib.hid (V3.out.here hz)
        replace V4 := Lib.hid (V4.out.here hz)
        replace BR := Lib.hid (BR.out.here hz)
        replace B1 := Lib.hid (thence B1.out hz (Nat.le_refl _))
        replace RB := Lib.hid (RB.out.here hz)
        have BN : Hid (Bx (w1.alloc (.cells #[.int .i64 5, .int .i64 4] 56)) w1.heap.size [.int .i64 5, .int .i64 4]) := Bx.new w1 [.int .i64 5, .int .i64 4] 56
        have LT2 : Hid ((w1.alloc (.cells #[.int .i64 5, .int .i64 4] 56)).rangeLeft b r < wr.rangeLeft b r) := by rw [hI.left, ← HI1.out.left]; exact LT.out
        replace HI1 := Lib.hid hI
        clear hz hI hen LT
        generalize w1.alloc (.cells #[.int .i64 5, .int .i64 4] 56) = W2 at *
        (with_reducible refine (CT2.out _ RB.out).mono ?_)
        rintro e w3 ⟨rfl, b3⟩
        have hI := HI1.out.here b3
        replace V1 := Lib.hid (V1.out.here b3)
        replace V2 := Lib.hid (V2.out.here b3)
        replace V3 := Lib.hid (V3.out.here b3)
        replace V4 := Lib.hid (V4.out.here b3)
        replace BR := Lib.hid (BR.out.here b3)
        replace B1 := Lib.hid (thence B1.out b3 (Nat.le_refl _))
        have LT3 : Hid (w3.rangeLeft b r < wr.rangeLeft b r) := by rw [hI.left, ← HI1.out.left]; exact LT2.out
        replace HI1 := Lib.hid hI
        clear b3 hI LT2 RB BN
        have cv := V2.out.one
        have fv := V2.out.frozen 0
        have lv := V2.out.lt
        go_wp2_with fail
        go_roundw
        case rel => exact ⟨seen.push i, x1, PK.tv m 5 4, x3, x4, HI1.out.set ⟨g2, 0, none⟩ _ (by simp; try omega) (by simp; try omega), V1.out.other ⟨g2, 0, none⟩ (by simp; try omega) _, V2.out.set 0 _, V3.out.other ⟨g2, 0, none⟩ (by simp; try omega) _, V4.out.other ⟨g2, 0, none⟩ (by simp; try omega) _, S1.out.more hx (by simp; try omega), SuSeen.done _ _ _ _, S3.out.more hx (by simp; try omega), S4.out.more hx (by simp; try omega), BR.out.other ⟨g2, 0, none⟩ (by simp; try omega) _, B1.out.setCell (p := ⟨g2, 0, none⟩) (by simp; try omega) _⟩
        case measure => rw [(HI1.out.set ⟨g2, 0, none⟩ (.int .i64 ((PK.tv m 5 4 : Nat) : Int)) (by simp; try omega) (by simp; try omega)).left, ← HI1.out.left]; exact LT3.out
      · have EN := hen
        clear hen
        have hen := EN
        clear EN
        go_wp2_with fail
        have hz : Below w1.heap.size w1 (w1.alloc (.cells #[.int .i64 9, .int .i64 4] 56)) := (Below.refl _ _).alloc (Nat.le_refl _) _
        have hI := HI1.out.here hz
        replace V1 := Lib.hid (V1.out.here hz)
        replace V2 := Lib.hid (V2.out.here hz)
        replace V3 := Lib.hid (V3.out.here hz)
        replace V4 := Lib.hid (V4.out.here hz)
        replace BR := Lib.hid (BR.out.here hz)
        replace B1 := Lib.hid (thence B1.out hz (Nat.le_refl _))
        replace RB := Lib.hid (RB.out.here hz)
        have BN : Hid (Bx (w1.alloc (.cells #[.int .i64 9, .int .i64 4] 56)) w1.heap.size [.int .i64 9, .int .i64 4]) := Bx.new w1 [.int .i64 9, .int .i64 4] 56
        have LT2 : Hid ((w1.alloc (.cells #[.int .i64 9, .int .i64 4] 56)).rangeLeft b r < wr.rangeLeft b r) := by rw [hI.left, ← HI1.out.left]; exact LT.out
        replace HI1 := Lib.hid hI
        clear hz hI hen LT
        generalize w1.alloc (.cells #[.int .i64 9, .int .i64 4] 56) = W2 at *
        (with_reducible refine (CT3.out _ RB.out).mono ?_)
        rintro e w3 ⟨rfl, b3⟩
        have hI := HI1.out.here b3
        replace V1 := Lib.hid (V1.out.here b3)
        replace V2 := Lib.hid (V2.out.here b3)
        replace V3 := Lib.hid (V3.out.here b3)
        replace V4 := Lib.hid (V4.out.here b3)
        replace BR := Lib.hid (BR.out.here b3)
        replace B1 := Lib.hid (thence B1.out b3 (Nat.le_refl _))
        have LT3 : Hid (w3.rangeLeft b r < wr.rangeLeft b r) := by rw [hI.left, ← HI1.out.left]; exact LT2.out
        replace HI1 := Lib.hid hI
        clear b3 hI LT2 RB BN
        have cv := V3.out.one
        have fv := V3.out.frozen 0
        have lv := V3.out.lt
        go_wp2_with fail
        go_roundw
        case rel => exact ⟨seen.push i, x1, x2, PK.tv m 9 4, x4, HI1.out.set ⟨g3, 0, none⟩ _ (by simp; try omega) (by simp; try omega), V1.out.other ⟨g3, 0, none⟩ (by simp; try omega) _, V2.out.other ⟨g3, 0, none⟩ (by simp; try omega) _, V3.out.set 0 _, V4.out.other ⟨g3, 0, none⟩ (by simp; try omega) _, S1.out.more hx (by simp; try omega), S2.out.more hx (by simp; try omega), SuSeen.done _ _ _ _, S4.out.more hx (by simp; try omega), BR.out.other ⟨g3, 0, none⟩ (by simp; try omega) _, B1.out.setCell (p := ⟨g3, 0, none⟩) (by simp; try omega) _⟩
        case measure => rw [(HI1.out.set ⟨g3, 0, none⟩ (.int .i64 ((PK.tv m 9 4 : Nat) : Int)) (by simp; try omega) (by simp; try omega)).left, ← HI1.out.left]; exact LT3.out
      · have EN := hen
        clear hen
        have hen := EN
        clear EN
        go_wp2_with fail
        have hz : Below w1.heap.size w1 (w1.alloc (.cells #[.int .i64 13, .int .i64 1] 56)) := (Below.refl _ _).alloc (Nat.le_refl _) _
        have hI := HI1.out.here hz
        replace V1 := Lib.hid (V1.out.here hz)
        replace V2 := Lib.hid (V2.out.here hz)
        replace V3 := Lib.hid (V3.out.here hz)
        replace V4 := Lib.hid (V4.out.here hz)
        replace BR := Lib.hid (BR.out.here hz)
        replace B1 := Lib.hid (thence B1.out hz (Nat.le_refl _))
        replace RB := Lib.hid (RB.out.here hz)
        have BN : Hid (Bx (w1.alloc (.cells #[.int .i64 13, .int .i64 1] 56)) w1.heap.size [.int .i64 13, .int .i64 1]) := Bx.new w1 [.int .i64 13, .int .i64 1] 56
        have LT2 : Hid ((w1.alloc (.cells #[.int .i64 13, .int .i64 1] 56)).rangeLeft b r < wr.rangeLeft b r) := by rw [hI.left, ← HI1.out.left]; exact LT.out
        replace HI1 := Lib.hid hI
        clear hz hI hen LT
        generalize w1.alloc (.cells #[.int .i64 13, .int .i64 1] 56) = W2 at *
        (with_reducible refine (CT4.out _ RB.out).mono ?_)
        rintro e w3 ⟨rfl, b3⟩
        have hI := HI1.out.here b3
        replace V1 := Lib.hid (V1.out.here b3)
        replace V2 := Lib.hid (V2.out.here b3)
        replace V3 := Lib.hid (V3.out.here b3)
        replace V4 := Lib.hid (V4.out.here b3)
        replace BR := Lib.hid (BR.out.here b3)
        replace B1 := Lib.hid (thence B1.out b3 (Nat.le_refl _))
        have LT3 : Hid (w3.rangeLeft b r < wr.rangeLeft b r) := by rw [hI.left, ← HI1.out.left]; exact LT2.out
        replace HI1 := Lib.hid hI
        clear b3 hI LT2 RB BN
        have cv := V4.out.one
        have fv := V4.out.frozen 0
        have lv := V4.out.lt
        go_wp2_with fail
        go_roundw
        case rel => exact ⟨seen.push i, x1, x2, x3, PK.tv m 13 1, HI1.out.set ⟨g4, 0, none⟩ _ (by simp; try omega) (by simp; try omega), V1.out.other ⟨g4, 0, none⟩ (by simp; try omega) _, V2.out.other ⟨g4, 0, none⟩ (by simp; try omega) _, V3.out.other ⟨g4, 0, none⟩ (by simp; try omega) _, V4.out.set 0 _, S1.out.more hx (by simp; try omega), S2.out.more hx (by simp; try omega), S3.out.more hx (by simp; try omega), SuSeen.done _ _ _ _, BR.out.other ⟨g4, 0, none⟩ (by simp; try omega) _, B1.out.setCell (p := ⟨g4, 0, none⟩) (by simp; try omega) _⟩
        case measure => rw [(HI1.out.set ⟨g4, 0, none⟩ (.int .i64 ((PK.tv m 13 1 : Nat) : Int)) (by simp; try omega) (by simp; try omega)).left, ← HI1.out.left]; exact LT3.out

set_option maxHeartbeats 4000000 in
theorem suRead_text (a : Option Addr) (n c : Nat) (l : List Nat) (w : World) (hr : Rd w.heap.size w a n c l) (h0 : l.length ≠ 0) (h1 : l.length ≠ 128) :
    Calls Try.prog 11 #[.slice a n c] w fun e w' => e = .returned (.tuple #[.agg #[.int .u32 0, .int .u32 0, .int .u32 0, .int .i64 0], .int .i64 3]) ∧ Below w.heap.size w w' := by
  have CT := Lib.hid (fun (p q : Int) w1 hr => (take_text a n c l p q w1 hr h0 h1).mono (fun e w' h => (⟨h.1, h.2 ▸ Below.refl _ _⟩ : e = .returned (.tuple #[.int .i64 0, .int .i64 3]) ∧ Below w1.heap.size w1 w')))
  clear h0 h1
  have hmm := @run_makeMap Try.prog
  have info : (Try.prog.info? 3).map (fun i => (i.size, i.bytes)) = some (1, 8) := by kernel_rfl
  obtain ⟨ji, hji, hjs⟩ : ∃ i, Try.prog.info? 3 = some i ∧ i.size ≠ 0 := by
    cases hi : Try.prog.info? 3 with
    | none => rw [hi] at info; cases info
    | some i => rw [hi] at info; simp at info; exact ⟨i, rfl, by omega⟩
  have B0 : Hid (Below w.heap.size w (((((w.alloc (.cells #[.int .u32 0, .int .u32 0, .int .u32 0, .int .i64 0] 28)).alloc (.cells #[.int .i64 0] 3)).alloc (.cells #[.int .i64 0] 3)).alloc (.cells #[.int .i64 0] 3)).alloc (.cells #[.int .i64 0] 3))) := ((((((Below.refl _ _).alloc (Nat.le_refl _) _).alloc (by simp; try omega) _).alloc (by simp; try omega) _).alloc (by simp; try omega) _).alloc (by simp; try omega) _)
  have BR : Hid (Bx (((((w.alloc (.cells #[.int .u32 0, .int .u32 0, .int .u32 0, .int .i64 0] 28)).alloc (.cells #[.int .i64 0] 3)).alloc (.cells #[.int .i64 0] 3)).alloc (.cells #[.int .i64 0] 3)).alloc (.cells #[.int .i64 0] 3)) w.heap.size [.int .u32 0, .int .u32 0, .int .u32 0, .int .i64 0]) := ((((((((Bx.new w [.int .u32 0, .int .u32 0, .int .u32 0, .int .i64 0] 28).alloc _)).alloc _)).alloc _)).alloc _)
  have V1 : Hid (Bx (((((w.alloc (.cells #[.int .u32 0, .int .u32 0, .int .u32 0, .int .i64 0] 28)).alloc (.cells #[.int .i64 0] 3)).alloc (.cells #[.int .i64 0] 3)).alloc (.cells #[.int .i64 0] 3)).alloc (.cells #[.int .i64 0] 3)) (w.heap.size + 1) [.int .i64 0]) := by
    have h : Bx (((((w.alloc (.cells #[.int .u32 0, .int .u32 0, .int .u32 0, .int .i64 0] 28)).alloc (.cells #[.int .i64 0] 3)).alloc (.cells #[.int .i64 0] 3)).alloc (.cells #[.int .i64 0] 3)).alloc (.cells #[.int .i64 0] 3)) ((w.alloc (.cells #[.int .u32 0, .int .u32 0, .int .u32 0, .int .i64 0] 28))).heap.size [.int .i64 0] := ((((((Bx.new (w.alloc (.cells #[.int .u32 0, .int .u32 0, .int .u32 0, .int .i64 0] 28)) [.int .i64 0] 3).alloc _)).alloc _)).alloc _)
    have e : (w.alloc (.cells #[.int .u32 0, .int .u32 0, .int .u32 0, .int .i64 0] 28)).heap.size = w.heap.size + 1 := by simp
    rw [e] at h
    exact h
  have V2 : Hid (Bx (((((w.alloc (.cells #[.int .u32 0, .int .u32 0, .int .u32 0, .int .i64 0] 28)).alloc (.cells #[.int .i64 0] 3)).alloc (.cells #[.int .i64 0] 3)).alloc (.cells #[.int .i64 0] 3)).alloc (.cells #[.int .i64 0] 3)) (w.heap.size + 1 + 1) [.int .i64 0]) := by
    have h : Bx (((((w.alloc (.cells #[.int .u32 0, .int .u32 0, .int .u32 0, .int .i64 0] 28)).alloc (.cells #[.int .i64 0] 3)).alloc (.cells #[.int .i64 0] 3)).alloc (.cells #[.int .i64 0] 3)).alloc (.cells #[.int .i64 0] 3)) (((w.alloc (.cells #[.int .u32 0, .int .u32 0, .int .u32 0, .int .i64 0] 28)).alloc (.cells #[.int .i64 0] 3))).heap.size [.int .i64 0] := ((((Bx.new ((w.alloc (.cells #[.int .u32 0, .int .u32 0, .int .u32 0, .int .i64 0] 28)).alloc (.cells #[.int .i64 0] 3)) [.int .i64 0] 3).alloc _)).alloc _)
    have e : ((w.alloc (.cells #[.int .u32 0, .int .u32 0, .int .u32 0, .int .i64 0] 28)).alloc (.cells #[.int .i64 0] 3)).heap.size = w.heap.size + 1 + 1 := by simp
    rw [e] at h
    exact h
  have V3 : Hid (Bx (((((w.alloc (.cells #[.int .u32 0, .int .u32 0, .int .u32 0, .int .i64 0] 28)).alloc (.cells #[.int .i64 0] 3)).alloc (.cells #[.int .i64 0] 3)).alloc (.cells #[.int .i64 0] 3)).alloc (.cells #[.int .i64 0] 3)) (w.heap.size + 1 + 1 + 1) [.int .i64 0]) := by
    have h : Bx (((((w.alloc (.cells #[.int .u32 0, .int .u32 0, .int .u32 0, .int .i64 0] 28)).alloc (.cells #[.int .i64 0] 3)).alloc (.cells #[.int .i64 0] 3)).alloc (.cells #[.int .i64 0] 3)).alloc (.cells #[.int .i64 0] 3)) ((((w.alloc (.cells #[.int .u32 0, .int .u32 0, .int .u32 0, .int .i64 0] 28)).alloc (.cells #[.int .i64 0] 3)).alloc (.cells #[.int .i64 0] 3))).heap.size [.int .i64 0] := ((Bx.new (((w.alloc (.cells #[.int .u32 0, .int .u32 0, .int .u32 0, .int .i64 0] 28)).alloc (.cells #[.int .i64 0] 3)).alloc (.cells #[.int .i64 0] 3)) [.int .i64 0] 3).alloc _)
    have e : (((w.alloc (.cells #[.int .u32 0, .int .u32 0, .int .u32 0, .int .i64 0] 28)).alloc (.cells #[.int .i64 0] 3)).alloc (.cells #[.int .i64 0] 3)).heap.size = w.heap.size + 1 + 1 + 1 := by simp
    rw [e] at h
    exact h
  have V4 : Hid (Bx (((((w.alloc (.cells #[.int .u32 0, .int .u32 0, .int .u32 0, .int .i64 0] 28)).alloc (.cells #[.int .i64 0] 3)).alloc (.cells #[.int .i64 0] 3)).alloc (.cells #[.int .i64 0] 3)).alloc (.cells #[.int .i64 0] 3)) (w.heap.size + 1 + 1 + 1 + 1) [.int .i64 0]) := by
    have h : Bx (((((w.alloc (.cells #[.int .u32 0, .int .u32 0, .int .u32 0, .int .i64 0] 28)).alloc (.cells #[.int .i64 0] 3)).alloc (.cells #[.int .i64 0] 3)).alloc (.cells #[.int .i64 0] 3)).alloc (.cells #[.int .i64 0] 3)) (((((w.alloc (.cells #[.int .u32 0, .int .u32 0, .int .u32 0, .int .i64 0] 28)).alloc (.cells #[.int .i64 0] 3)).alloc (.cells #[.int .i64 0] 3)).alloc (.cells #[.int .i64 0] 3))).heap.size [.int .i64 0] := Bx.new ((((w.alloc (.cells #[.int .u32 0, .int .u32 0, .int .u32 0, .int .i64 0] 28)).alloc (.cells #[.int .i64 0] 3)).alloc (.cells #[.int .i64 0] 3)).alloc (.cells #[.int .i64 0] 3)) [.int .i64 0] 3
    have e : ((((w.alloc (.cells #[.int .u32 0, .int .u32 0, .int .u32 0, .int .i64 0] 28)).alloc (.cells #[.int .i64 0] 3)).alloc (.cells #[.int .i64 0] 3)).alloc (.cells #[.int .i64 0] 3)).heap.size = w.heap.size + 1 + 1 + 1 + 1 := by simp
    rw [e] at h
    exact h
  have HR := Lib.hid hr
  clear hr
  go_enter Try.func11, Try.ntmps11
  go_wp2_with fail
  generalize (((((w.alloc (.cells #[.int .u32 0, .int .u32 0, .int .u32 0, .int .i64 0] 28)).alloc (.cells #[.int .i64 0] 3)).alloc (.cells #[.int .i64 0] 3)).alloc (.cells #[.int .i64 0] 3)).alloc (.cells #[.int .i64 0] 3)) = W0 at *
  obtain ⟨g4, hg4⟩ : ∃ g, w.heap.size + 1 + 1 + 1 + 1 = g := ⟨_, rfl⟩
  rw [hg4] at V4 ⊢
  obtain ⟨g3, hg3⟩ : ∃ g, w.heap.size + 1 + 1 + 1 = g := ⟨_, rfl⟩
  rw [hg3] at V3 ⊢
  obtain ⟨g2, hg2⟩ : ∃ g, w.heap.size + 1 + 1 = g := ⟨_, rfl⟩
  rw [hg2] at V2 ⊢
  obtain ⟨g1, hg1⟩ : ∃ g, w.heap.size + 1 = g := ⟨_, rfl⟩
  rw [hg1] at V1 ⊢
  have ord : Hid (w.heap.size < g1 ∧ g1 < g2 ∧ g2 < g3 ∧ g3 < g4 ∧ g4 < W0.heap.size) := ⟨by omega, by omega, by omega, by omega, V4.out.lt⟩
  clear hg1 hg2 hg3 hg4
  refine wp_region_noPanic ?_
  refine PX.wp_region_y (fun w' => Below W0.heap.size W0 w') [] (by kernel_rfl) (Below.refl _ _).drew (fun hHeld => ?_)
  refine PX.wpAnyY_take (i := 1) (oi := ?_) (v := ?_) ?_ (by kernel_rfl) (by kernel_rfl) (by kernel_rfl) (by kernel_rfl) (by kernel_rfl) (fun _ _ _ h => h) (Or.inl ⟨?_, ?_⟩) (by assumption) ?_
  rotate_left 2
  · simp only [List.getElem?_toArray, List.getElem?_cons_succ, List.getElem?_cons_zero]; rfl
  · rfl
  · intro w hSw; (try dsimp only at hSw); go_simp <;> with_reducible rfl
  (try simp only [Act.put, List.setIfInBounds_toArray, List.set_cons_zero, List.set_cons_succ])
  refine PX.wpAnyY_take (i := 3) (oi := ?_) (v := ?_) ?_ (by kernel_rfl) (by kernel_rfl) (by kernel_rfl) (by kernel_rfl) (by kernel_rfl) (fun _ _ _ h => h) (Or.inl ⟨?_, ?_⟩) (by assumption) ?_
  rotate_left 2
  · simp only [List.getElem?_toArray, List.getElem?_cons_succ, List.getElem?_cons_zero]; rfl
  · rfl
  · intro w hSw; (try dsimp only at hSw); go_simp <;> with_reducible rfl
  (try simp only [Act.put, List.setIfInBounds_toArray, List.set_cons_zero, List.set_cons_succ])
  refine PX.wpAnyY_take (i := 5) (oi := ?_) (v := ?_) ?_ (by kernel_rfl) (by kernel_rfl) (by kernel_rfl) (by kernel_rfl) (by kernel_rfl) (fun _ _ _ h => h) (Or.inl ⟨?_, ?_⟩) (by assumption) ?_
  rotate_left 2
  · simp only [List.getElem?_toArray, List.getElem?_cons_succ, List.getElem?_cons_zero]; rfl
  · rfl
  · intro w hSw; (try dsimp only at hSw); go_simp <;> with_reducible rfl
  (try simp only [Act.put, List.setIfInBounds_toArray, List.set_cons_zero, List.set_cons_succ])
  refine PX.wpAnyY_take (i := 7) (oi := ?_) (v := ?_) ?_ (by kernel_rfl) (by kernel_rfl) (by kernel_rfl) (by kernel_rfl) (by kernel_rfl) (fun _ _ _ h => h) (Or.inl ⟨?_, ?_⟩) (by assumption) ?_
  rotate_left 2
  · simp only [List.getElem?_toArray, List.getElem?_cons_succ, List.getElem?_cons_zero]; rfl
  · rfl
  · intro w hSw; (try dsimp only at hSw); go_simp <;> with_reducible rfl
  (try simp only [Act.put, List.setIfInBounds_toArray, List.set_cons_zero, List.set_cons_succ])
  refine PX.wpAnyY_one (i := 0) (o := ?_) (by kernel_rfl) ?_ (fun Kq hKq => ?_)
  rotate_left
  · simp only [List.getElem?_toArray, List.getElem?_cons_succ, List.getElem?_cons_zero]; rfl
  go_simp
  refine hKq.out _ _ (((Below.refl _ _).alloc (Nat.le_refl _) _).drew) (fun hHeld => ?_)
  clear hKq Kq
  (try simp only [Act.put, List.setIfInBounds_toArray, List.set_cons_zero, List.set_cons_succ])
  refine PX.wpAnyY_literal (t := 57) (kt := 54) (te := 3) (et := 56) (j := ji) Try.underlying57 Try.underlying54 hji hjs [(2, (⟨g1, 0, none⟩ : Addr), .agg #[.int .i64 1, .int .i64 4]), (4, (⟨g2, 0, none⟩ : Addr), .agg #[.int .i64 5, .int .i64 4]), (6, (⟨g3, 0, none⟩ : Addr), .agg #[.int .i64 9, .int .i64 4]), (8, (⟨g4, 0, none⟩ : Addr), .agg #[.int .i64 13, .int .i64 1])] [2, 4, 6, 8] rfl W0.heap.size ?_ (by decide) ?_ (by kernel_rfl) ?_ ?_ (fuel := 2) rfl hHeld ?_ (fun wm L hperm hmap hHeld => ?_)
  · intro x hx
    simp only [List.mem_cons, List.not_mem_nil, or_false] at hx
    rcases hx with rfl | rfl | rfl | rfl <;> exact ⟨_, _, _, _, rfl, rfl, rfl, rfl, rfl, rfl, rfl⟩
  · have := ord.out
    simp
    (try omega)
  · intro w' hS x hx
    simp only [List.mem_cons, List.not_mem_nil, or_false] at hx
    rcases hx with rfl | rfl | rfl | rfl
    · obtain ⟨t, h⟩ := V1.out.below hS V1.out.lt; exact ⟨_, t, h⟩
    · obtain ⟨t, h⟩ := V2.out.below hS V2.out.lt; exact ⟨_, t, h⟩
    · obtain ⟨t, h⟩ := V3.out.below hS V3.out.lt; exact ⟨_, t, h⟩
    · obtain ⟨t, h⟩ := V4.out.below hS V4.out.lt; exact ⟨_, t, h⟩
  · intro w1 w2 h hg
    exact h.grown hg h.size (fun k hk => by cases hk; exact Nat.le_refl _)
  · exact (PX.PtrMap.made W0).drew
  have hR := PX.run_range_ptr Try.underlying57 hmap
  refine PX.wpAnyY_one (i := 9) (o := ?_) (by kernel_rfl) ?_ (fun Kq hKq => ?_)
  rotate_left
  · simp only [List.getElem?_toArray, List.getElem?_cons_succ, List.getElem?_cons_zero]; rfl
  go_simp
  refine hKq.out _ _ (hHeld) (fun hHeld => ?_)
  clear hKq Kq
  (try simp only [Act.put, List.setIfInBounds_toArray, List.set_cons_zero, List.set_cons_succ])
  refine PX.wpAnyY_one (i := 10) (o := ?_) (by kernel_rfl) ?_ (fun Kq hKq => ?_)
  rotate_left
  · simp only [List.getElem?_toArray, List.getElem?_cons_succ, List.getElem?_cons_zero]; rfl
  go_simp
  refine hKq.out _ _ (hHeld) (fun hHeld => ?_)
  clear hKq Kq
  (try simp only [Act.put, List.setIfInBounds_toArray, List.set_cons_zero, List.set_cons_succ])
  refine PX.wpAnyY_done (by kernel_rfl) ?_ _
  refine NoPanic.normal ?_
  go_wp2_with fail
  have hOld := hHeld
  replace hHeld := hHeld.alloc hHeld.size (.mapIter (some W0.heap.size) L.length #[] L.length)
  have hlow := B0.out.size
  have ho := ord.out
  have hI := PX.IterAt.begin hmap
  obtain ⟨r, hrd⟩ : ∃ g, wm.heap.size = g := ⟨_, rfl⟩
  have hr0 : W0.heap.size ≤ r := by rw [← hrd]; exact (show Below W0.heap.size W0 wm from by assumption).size
  rw [hrd] at hI ⊢
  clear hR hmap hrd hOld
  have HI := Lib.hid hI
  clear hI
  replace V1 := Lib.hid (V1.out.here hHeld)
  replace V2 := Lib.hid (V2.out.here hHeld)
  replace V3 := Lib.hid (V3.out.here hHeld)
  replace V4 := Lib.hid (V4.out.here hHeld)
  replace BR := Lib.hid (BR.out.here hHeld)
  replace B0 := Lib.hid (thence B0.out hHeld (Nat.le_refl _))
  have HP := Lib.hid hperm
  clear hperm
  generalize wm.alloc (.mapIter (some W0.heap.size) L.length #[] L.length) = W1 at *
  obtain ⟨b, hbd⟩ : ∃ g, W0.heap.size = g := ⟨_, rfl⟩
  rw [hbd] at HI hr0 ho ord
  clear hbd
  clear V1 V2 V3 V4
  skip
  go_loopw [] (fun wr => ∃ seen : Array Nat, Hid (seen.size = 0) ∧ PX.IterAt wr r b L seen ∧ Bx wr w.heap.size [.int .u32 0, .int .u32 0, .int .u32 0, .int .i64 0] ∧ Below w.heap.size w wr) (fun wr => wr.rangeLeft b r)
  case atStart => exact ⟨#[], Lib.hid rfl, HI.out, BR.out, B0.out⟩
  case round =>
    clear HI BR B0
    obtain ⟨seen, hsn, hI, hbr, hb⟩ := hrel
    have HI := Lib.hid hI
    have BR := Lib.hid hbr
    have B1 := Lib.hid hb
    have RB := Lib.hid ((HR.out.below hb).mono hb.size)
    clear hI hbr hb
    go_wp2_with (first
      | (at_next; refine PX.wpList_next_ptr _ rfl _ rfl r b L seen rfl HI.out ?_ ?_)
      | go_in)
    · intro hall
      exfalso
      have hlen := HP.out.length_eq
      have hq := hall 0 (by rw [hlen]; simp)
      have hz := Array.eq_empty_of_size_eq_zero hsn.out
      subst hz
      simp at hq
    · intro i xa xv w1 hx hns hI hg hsz hlt hen
      have hxm := HP.out.mem_iff.1 (List.mem_of_getElem? hx)
      simp only [List.map_cons, List.map_nil, List.mem_cons, List.not_mem_nil, or_false, Prod.mk.injEq] at hxm
      replace BR := Lib.hid (BR.out.grown hg (by simp; try omega))
      replace B1 := Lib.hid (B1.out.grown hg B1.out.size (fun k hk => by cases hk; omega))
      replace RB := Lib.hid ((HR.out.below B1.out).mono B1.out.size)
      clear hlt hI hg hsz HI
      rcases hxm with ⟨rfl, rfl⟩ | ⟨rfl, rfl⟩ | ⟨rfl, rfl⟩ | ⟨rfl, rfl⟩
      · have EN := hen
        clear hen
        have hen := EN
        clear EN
        go_wp2_with fail
        have hz : Below w1.heap.size w1 (w1.alloc (.cells #[.int .i64 1, .int .i64 4] 56)) := (Below.refl _ _).alloc (Nat.le_refl _) _
        replace BR := Lib.hid (BR.out.here hz)
        replace B1 := Lib.hid (thence B1.out hz (Nat.le_refl _))
        replace RB := Lib.hid (RB.out.here hz)
        clear hz hen
        (with_reducible refine (CT.out _ _ _ RB.out).mono ?_)
        rintro e w3 ⟨rfl, b3⟩
        replace BR := Lib.hid (BR.out.here b3)
        replace B1 := Lib.hid (thence B1.out b3 (Nat.le_refl _))
        clear b3 RB
        have lr := BR.out.lt
        obtain ⟨r0, r1, r2, r3⟩ := BR.out.four'
        have fr0 := BR.out.frozen 0
        have fr1 := BR.out.frozen 1
        have fr2 := BR.out.frozen 2
        have fr3 := BR.out.frozen 3
        go_wp2_with fail
        have hb := ((((B1.out.setCell (p := ⟨w.heap.size, 0, none⟩) (Nat.le_refl _) (.int .u32 0)).setCell (p := ⟨w.heap.size, 1, none⟩) (Nat.le_refl _) (.int .u32 0)).setCell (p := ⟨w.heap.size, 2, none⟩) (Nat.le_refl _) (.int .u32 0)).setCell (p := ⟨w.heap.size, 3, none⟩) (Nat.le_refl _) (.int .i64 0))
        exact bodyPost_ret (v := .tuple #[.agg #[.int .u32 0, .int .u32 0, .int .u32 0, .int .i64 0], .int .i64 3]) (by simp [results, Try.results11, go_sem, lr, r0, r1, r2, r3]) rfl ⟨rfl, hb⟩
      · have EN := hen
        clear hen
        have hen := EN
        clear EN
        go_wp2_with fail
        have hz : Below w1.heap.size w1 (w1.alloc (.cells #[.int .i64 5, .int .i64 4] 56)) := (Below.refl _ _).alloc (Nat.le_refl _) _
        replace BR := Lib.hid (BR.out.here hz)
        replace B1 := Lib.hid (thence B1.out hz (Nat.le_refl _))
        replace RB := Lib.hid (RB.out.here hz)
        clear hz hen
        (with_reducible refine (CT.out _ _ _ RB.out).mono ?_)
        rintro e w3 ⟨rfl, b3⟩
        replace BR := Lib.hid (BR.out.here b3)
        replace B1 := Lib.hid (thence B1.out b3 (Nat.le_refl _))
        clear b3 RB
        have lr := BR.out.lt
        obtain ⟨r0, r1, r2, r3⟩ := BR.out.four'
        have fr0 := BR.out.frozen 0
        have fr1 := BR.out.frozen 1
        have fr2 := BR.out.frozen 2
        have fr3 := BR.out.frozen 3
        go_wp2_with fail
        have hb := ((((B1.out.setCell (p := ⟨w.heap.size, 0, none⟩) (Nat.le_refl _) (.int .u32 0)).setCell (p := ⟨w.heap.size, 1, none⟩) (Nat.le_refl _) (.int .u32 0)).setCell (p := ⟨w.heap.size, 2, none⟩) (Nat.le_refl _) (.int .u32 0)).setCell (p := ⟨w.heap.size, 3, none⟩) (Nat.le_refl _) (.int .i64 0))
        exact bodyPost_ret (v := .tuple #[.agg #[.int .u32 0, .int .u32 0, .int .u32 0, .int .i64 0], .int .i64 3]) (by simp [results, Try.results11, go_sem, lr, r0, r1, r2, r3]) rfl ⟨rfl, hb⟩
      · have EN := hen
        clear hen
        have hen := EN
        clear EN
        go_wp2_with fail
        have hz : Below w1.heap.size w1 (w1.alloc (.cells #[.int .i64 9, .int .i64 4] 56)) := (Below.refl _ _).alloc (Nat.le_refl _) _
        replace BR := Lib.hid (BR.out.here hz)
        replace B1 := Lib.hid (thence B1.out hz (Nat.le_refl _))
        replace RB := Lib.hid (RB.out.here hz)
        clear hz hen
        (with_reducible refine (CT.out _ _ _ RB.out).mono ?_)
        rintro e w3 ⟨rfl, b3⟩
        replace BR := Lib.hid (BR.out.here b3)
        replace B1 := Lib.hid (thence B1.out b3 (Nat.le_refl _))
        clear b3 RB
        have lr := BR.out.lt
        obtain ⟨r0, r1, r2, r3⟩ := BR.out.four'
        have fr0 := BR.out.frozen 0
        have fr1 := BR.out.frozen 1
        have fr2 := BR.out.frozen 2
        have fr3 := BR.out.frozen 3
        go_wp2_with fail
        have hb := ((((B1.out.setCell (p := ⟨w.heap.size, 0, none⟩) (Nat.le_refl _) (.int .u32 0)).setCell (p := ⟨w.heap.size, 1, none⟩) (Nat.le_refl _) (.int .u32 0)).setCell (p := ⟨w.heap.size, 2, none⟩) (Nat.le_refl _) (.int .u32 0)).setCell (p := ⟨w.heap.size, 3, none⟩) (Nat.le_refl _) (.int .i64 0))
        exact bodyPost_ret (v := .tuple #[.agg #[.int .u32 0, .int .u32 0, .int .u32 0, .int .i64 0], .int .i64 3]) (by simp [results, Try.results11, go_sem, lr, r0, r1, r2, r3]) rfl ⟨rfl, hb⟩
      · have EN := hen
        clear hen
        have hen := EN
        clear EN
        go_wp2_with fail
        have hz : Below w1.heap.size w1 (w1.alloc (.cells #[.int .i64 13, .int .i64 1] 56)) := (Below.refl _ _).alloc (Nat.le_refl _) _
        replace BR := Lib.hid (BR.out.here hz)
        replace B1 := Lib.hid (thence B1.out hz (Nat.le_refl _))
        replace RB := Lib.hid (RB.out.here hz)
        clear hz hen
        (with_reducible refine (CT.out _ _ _ RB.out).mono ?_)
        rintro e w3 ⟨rfl, b3⟩
        replace BR := Lib.hid (BR.out.here b3)
        replace B1 := Lib.hid (thence B1.out b3 (Nat.le_refl _))
        clear b3 RB
        have lr := BR.out.lt
        obtain ⟨r0, r1, r2, r3⟩ := BR.out.four'
        have fr0 := BR.out.frozen 0
        have fr1 := BR.out.frozen 1
        have fr2 := BR.out.frozen 2
        have fr3 := BR.out.frozen 3
        go_wp2_with fail
        have hb := ((((B1.out.setCell (p := ⟨w.heap.size, 0, none⟩) (Nat.le_refl _) (.int .u32 0)).setCell (p := ⟨w.heap.size, 1, none⟩) (Nat.le_refl _) (.int .u32 0)).setCell (p := ⟨w.heap.size, 2, none⟩) (Nat.le_refl _) (.int .u32 0)).setCell (p := ⟨w.heap.size, 3, none⟩) (Nat.le_refl _) (.int .i64 0))
        exact bodyPost_ret (v := .tuple #[.agg #[.int .u32 0, .int .u32 0, .int .u32 0, .int .i64 0], .int .i64 3]) (by simp [results, Try.results11, go_sem, lr, r0, r1, r2, r3]) rfl ⟨rfl, hb⟩

/-- What the program's own calls answer. -/
theorem superIs : SuperIs where
  check := fun id age seq tail w hi => suCheck_any id age seq tail w
  yes := fun id age seq tail w hi h => suWrite_yes id age seq tail w hi h
  no := fun id age seq tail w hi h => suWrite_no id age seq tail w hi h
  read := fun a n c l w hr => by
    by_cases h : l.length = 0 ∨ l.length = 128
    · exact suRead_go a n c l w hr h
    · have h0 : l.length ≠ 0 := fun e => h (.inl e)
      have h1 : l.length ≠ 128 := fun e => h (.inr e)
      rw [SB.rd_text h0 h1]
      exact suRead_text a n c l w hr h0 h1
/-- What is wanted of layer 9. -/
theorem labIO : LabIO where
  yes := fun id ev mem chunk rows log me lost done op w hi h => labelIs.yes id ev mem chunk rows log me lost done op w hi h
  no := fun id ev mem chunk rows log me lost done op w hi h => labelIs.no id ev mem chunk rows log me lost done op w hi h
  read := fun a n c l w hr h90 => by
    have h := labelIs.read a n c l w hr
    have hz : (LB.rd l).1 = LB.Lab.zero := by
      rcases LB.rd_code l with q | q | q
      · rw [q] at h90; cases h90
      · rw [q.1] at h90; cases h90
      · exact q.2
    rw [h90, hz] at h
    exact h
end Go.Proofs.Ytjdcnajppjamgaa.PW
