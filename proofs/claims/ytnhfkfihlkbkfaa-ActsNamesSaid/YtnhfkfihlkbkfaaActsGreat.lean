/-
  Contracts of layer 5: whether two lists of devices are the same, whether lists are greater than the statements go through; the document's own.
-/
import Derived.Test.YtnhfkfihlkbkfaaActsMay
import Derived.Test.YtnhfkfihlkbkfaaDiskRefSame
import Derived.Test.YtnhfkfihlkbkfaaDiskGreat
import Derived.Test.YtnhfkfihlkbkfaaHoist
namespace Go.Proofs.Ytnhfkfihlkbkfaa.PW
open Go.RowKit
open DK (Dv)
set_option linter.unusedVariables false
set_option linter.unusedSimpArgs false
set_option maxRecDepth 100000

/-- A call that answers a bool, of which no tells something. -/
def SomeB (P : Prop) (w : World) (e : Ending) (w' : World) : Prop := ∃ bb, e = .returned (.bool bb) ∧ (bb = false → P) ∧ Below w.heap.size w w'
/-- Two lists of devices whose first k are the same. -/
def AlkD (L M : List Dn) (k : Nat) : Prop := ∀ i, i < k → DK.norm ((devs L).getD i Dv.nil) = DK.norm ((devs M).getD i Dv.nil)
theorem AlkD.next {L M : List Dn} {k : Nat} (h : AlkD L M k) (hk : DK.norm ((devs L).getD k Dv.nil) = DK.norm ((devs M).getD k Dv.nil)) : AlkD L M (k + 1) := fun i hi => by
  by_cases e : i = k
  · subst e; exact hk
  · exact h i (by omega)
theorem AlkD.all {L M : List Dn} (h : AlkD L M L.length) (hl : L.length = M.length) : AK.sameD (devs L) (devs M) = true := by
  unfold AK.sameD
  rw [decide_eq_true_eq]
  apply List.ext_getElem (by rw [List.length_map, List.length_map, devs_length, devs_length, hl])
  intro i h1 h2
  rw [List.length_map] at h1 h2
  have := h i (by rw [devs_length] at h1; exact h1)
  simp only [List.getD, List.getElem?_eq_getElem h1, List.getElem?_eq_getElem h2, Option.getD_some] at this
  simpa using this
theorem sameD_not {L M : List Dn} {k : Nat} (h1 : k < L.length) (h2 : k < M.length) (h : DK.norm ((devs L).getD k Dv.nil) ≠ DK.norm ((devs M).getD k Dv.nil)) : AK.sameD (devs L) (devs M) = false := by
  unfold AK.sameD
  rw [decide_eq_false_iff_not]
  intro e
  apply h
  have hx : ∀ {N : List Dn} {k : Nat}, k < N.length → DK.norm ((devs N).getD k Dv.nil) = ((devs N).map DK.norm).getD k Dv.nil := fun {N k} hk => by
    have : k < (devs N).length := by rw [devs_length]; exact hk
    simp [List.getD, this]
  rw [hx h1, hx h2, e]
theorem sameD_len {L M : List Dn} (h : L.length ≠ M.length) : AK.sameD (devs L) (devs M) = false := by
  unfold AK.sameD
  rw [decide_eq_false_iff_not]
  intro e
  have := congrArg List.length e
  rw [List.length_map, List.length_map, devs_length, devs_length] at this
  exact h this

set_option maxHeartbeats 1000000 in
theorem refSameDs_any (a : Option Addr) (n c : Nat) (L : List Dn) (b : Option Addr) (m d : Nat) (M : List Dn) (w : World) (hr : Rg kDn 0 w.heap.size w a n c L) (hq : Rg kDn 0 w.heap.size w b m d M) (hf : ∀ D ∈ devs L, Fit D) (hg : ∀ D ∈ devs M, Fit D) :
    Calls Try.prog 16 #[.slice a n c, .slice b m d] w fun e w' => e = .returned (.bool (AK.sameD (devs L) (devs M))) ∧ Below w.heap.size w w' := by
  have Hn := Lib.hid hr.long
  have Hm := Lib.hid hq.long
  have hs := hr.small'
  have hs' := hq.small'
  have Hr := Lib.hid hr
  have Hq := Lib.hid hq
  have Hf := Lib.hid hf
  have Hg := Lib.hid hg
  clear hr hq hf hg
  by_cases hnm : n = m
  · subst hnm
    have HL : Hid (L.length = M.length) := Hn.out.symm.trans Hm.out
    go_enter Try.func16, Try.ntmps16
    go_wp2_with fail
    go_loopw [5] (fun i wr => ∃ k : Nat, k ≤ n ∧ i = .int .i64 k ∧ AlkD L M k ∧ Below w.heap.size w wr) (fun i _ => n - (intOf i).toNat)
    case atStart => exact ⟨0, Nat.zero_le _, rfl, fun i hi => by omega, Below.refl _ _⟩
    case round =>
      obtain ⟨k, hk, rfl, hf, hbw⟩ := hrel
      have HF := Lib.hid hf
      have WB := Lib.hid hbw
      clear hf hbw
      by_cases hlt : k < n
      · have hkL : k < L.length := by rw [← Hn.out]; exact hlt
        have hkM : k < M.length := by rw [← Hm.out]; exact hlt
        obtain ⟨ab, off, xa, xn, xc, xa', xn', xc', D, e1, -, e2, dv⟩ := Hr.out.dev k hkL
        obtain ⟨bb, off', ya, yn, yc, ya', yn', yc', E, e1', -, e2', dv'⟩ := Hq.out.dev k hkM
        subst e1 e1'
        have CX : Hid (∀ w', Below wr.heap.size wr w' → w'.cell? ⟨ab, off + k * 3, none⟩ = some (.slice xa xn xc) ∧ w'.cell? ⟨ab, off + k * 3 + 1, none⟩ = some (.slice xa' xn' xc') ∧ w'.cell? ⟨ab, off + k * 3 + 2, none⟩ = some (.bool D.dead)) := fun w' h =>
          (Hr.out.below (thence WB.out h (Nat.le_refl _)) (Nat.le_refl _)).dcell hkL e2
        have CY : Hid (∀ w', Below wr.heap.size wr w' → w'.cell? ⟨bb, off' + k * 3, none⟩ = some (.slice ya yn yc) ∧ w'.cell? ⟨bb, off' + k * 3 + 1, none⟩ = some (.slice ya' yn' yc') ∧ w'.cell? ⟨bb, off' + k * 3 + 2, none⟩ = some (.bool E.dead)) := fun w' h =>
          (Hq.out.below (thence WB.out h (Nat.le_refl _)) (Nat.le_refl _)).dcell hkM e2'
        have ED : Hid ((devs L).getD k Dv.nil = D) := by show _ = _; rw [devs_getD, e2]
        have EE : Hid ((devs M).getD k Dv.nil = E) := by show _ = _; rw [devs_getD, e2']
        have CS : Hid (∀ w', Below wr.heap.size wr w' → Calls Try.prog 30 #[.agg #[.slice xa xn xc, .slice xa' xn' xc', .bool D.dead], .agg #[.slice ya yn yc, .slice ya' yn' yc', .bool E.dead]] w' fun e w2 => e = .returned (.bool (DK.same D E)) ∧ Below w'.heap.size w' w2) := fun w' h =>
          refSame_any xa xn xc xa' xn' xc' D ya yn yc ya' yn' yc' E w' ((((dv.keep (.ofBelow WB.out (Nat.le_refl _))).mono (Nat.le_refl _) WB.out.size).at).here h) ((((dv'.keep (.ofBelow WB.out (Nat.le_refl _))).mono (Nat.le_refl _) WB.out.size).at).here h)
            (Hf.out D (by rw [← ED.out]; exact AK.mem_get (by rw [devs_length]; exact hkL))) (Hg.out E (by rw [← EE.out]; exact AK.mem_get (by rw [devs_length]; exact hkM)))
        have i1 : (k : Int) < (n : Int) := by omega
        have HKL := Lib.hid hkL
        have HKM := Lib.hid hkM
        clear e2 e2' dv dv' hkL hkM
        rcases Bool.eq_false_or_eq_true (DK.same D E) with hd | hd
        · rw [hd] at CS
          have HX : Hid (DK.norm ((devs L).getD k Dv.nil) = DK.norm ((devs M).getD k Dv.nil)) := by show _ = _; rw [ED.out, EE.out]; exact DK.same_iff.1 hd
          clear hd
          generalize D.dead = dd at *
          generalize E.dead = de at *
          go_wp2_with fail
          refine wp_region_noPanic ?_
          refine PX.wp_region_y (fun w' => Below wr.heap.size wr w') [] (by kernel_rfl) (Below.refl _ _).drew (fun hHeld => ?_)
          refine PX.wpAnyY_take (i := 0) (oi := ?_) (v := ?_) ?_ (by kernel_rfl) (by kernel_rfl) (by kernel_rfl) (by kernel_rfl) (by kernel_rfl) (fun _ _ _ h => h) (Or.inl ⟨?_, ?_⟩) (by assumption) ?_
          rotate_left 2
          · simp only [List.getElem?_toArray, List.getElem?_cons_succ, List.getElem?_cons_zero]; rfl
          · rfl
          · intro w hSw; (try dsimp only at hSw); go_simp <;> with_reducible rfl
          (try simp only [Act.put, List.setIfInBounds_toArray, List.set_cons_zero, List.set_cons_succ])
          refine PX.wpAnyY_take (i := 1) (oi := ?_) (v := ?_) ?_ (by kernel_rfl) (by kernel_rfl) (by kernel_rfl) (by kernel_rfl) (by kernel_rfl) (fun _ _ _ h => h) (Or.inl ⟨?_, ?_⟩) (by assumption) ?_
          rotate_left 2
          · simp only [List.getElem?_toArray, List.getElem?_cons_succ, List.getElem?_cons_zero]; rfl
          · rfl
          · intro w hSw; (try dsimp only at hSw); go_simp <;> with_reducible rfl
          (try simp only [Act.put, List.setIfInBounds_toArray, List.set_cons_zero, List.set_cons_succ])
          refine PX.wpAnyY_take (i := 2) (oi := ?_) (v := ?_) ?_ (by kernel_rfl) (by kernel_rfl) (by kernel_rfl) (by kernel_rfl) (by kernel_rfl) (fun _ _ _ h => h) (Or.inl ⟨?_, ?_⟩) (by assumption) ?_
          rotate_left 2
          · simp only [List.getElem?_toArray, List.getElem?_cons_succ, List.getElem?_cons_zero]; rfl
          · rfl
          · intro w hSw; (try dsimp only at hSw); go_simp <;> with_reducible rfl
          (try simp only [Act.put, List.setIfInBounds_toArray, List.set_cons_zero, List.set_cons_succ])
          refine PX.wpAnyY_take (i := 3) (oi := ?_) (v := ?_) ?_ (by kernel_rfl) (by kernel_rfl) (by kernel_rfl) (by kernel_rfl) (by kernel_rfl) (fun _ _ _ h => h) (Or.inl ⟨?_, ?_⟩) (by assumption) ?_
          rotate_left 2
          · simp only [List.getElem?_toArray, List.getElem?_cons_succ, List.getElem?_cons_zero]; rfl
          · rfl
          · intro w hSw; (try dsimp only at hSw); obtain ⟨p0, p1, p2⟩ := CX.out _ hSw; go_simp <;> with_reducible rfl
          (try simp only [Act.put, List.setIfInBounds_toArray, List.set_cons_zero, List.set_cons_succ])
          refine PX.wpAnyY_take (i := 4) (oi := ?_) (v := ?_) ?_ (by kernel_rfl) (by kernel_rfl) (by kernel_rfl) (by kernel_rfl) (by kernel_rfl) (fun _ _ _ h => h) (Or.inl ⟨?_, ?_⟩) (by assumption) ?_
          rotate_left 2
          · simp only [List.getElem?_toArray, List.getElem?_cons_succ, List.getElem?_cons_zero]; rfl
          · rfl
          · intro w hSw; (try dsimp only at hSw); go_simp <;> with_reducible rfl
          (try simp only [Act.put, List.setIfInBounds_toArray, List.set_cons_zero, List.set_cons_succ])
          refine PX.wpAnyY_take (i := 5) (oi := ?_) (v := ?_) ?_ (by kernel_rfl) (by kernel_rfl) (by kernel_rfl) (by kernel_rfl) (by kernel_rfl) (fun _ _ _ h => h) (Or.inl ⟨?_, ?_⟩) (by assumption) ?_
          rotate_left 2
          · simp only [List.getElem?_toArray, List.getElem?_cons_succ, List.getElem?_cons_zero]; rfl
          · rfl
          · intro w hSw; (try dsimp only at hSw); go_simp <;> with_reducible rfl
          (try simp only [Act.put, List.setIfInBounds_toArray, List.set_cons_zero, List.set_cons_succ])
          refine PX.wpAnyY_take (i := 6) (oi := ?_) (v := ?_) ?_ (by kernel_rfl) (by kernel_rfl) (by kernel_rfl) (by kernel_rfl) (by kernel_rfl) (fun _ _ _ h => h) (Or.inl ⟨?_, ?_⟩) (by assumption) ?_
          rotate_left 2
          · simp only [List.getElem?_toArray, List.getElem?_cons_succ, List.getElem?_cons_zero]; rfl
          · rfl
          · intro w hSw; (try dsimp only at hSw); go_simp <;> with_reducible rfl
          (try simp only [Act.put, List.setIfInBounds_toArray, List.set_cons_zero, List.set_cons_succ])
          refine PX.wpAnyY_take (i := 7) (oi := ?_) (v := ?_) ?_ (by kernel_rfl) (by kernel_rfl) (by kernel_rfl) (by kernel_rfl) (by kernel_rfl) (fun _ _ _ h => h) (Or.inl ⟨?_, ?_⟩) (by assumption) ?_
          rotate_left 2
          · simp only [List.getElem?_toArray, List.getElem?_cons_succ, List.getElem?_cons_zero]; rfl
          · rfl
          · intro w hSw; (try dsimp only at hSw); obtain ⟨p0, p1, p2⟩ := CY.out _ hSw; go_simp <;> with_reducible rfl
          (try simp only [Act.put, List.setIfInBounds_toArray, List.set_cons_zero, List.set_cons_succ])
          refine PX.wpAnyY_one (i := 8) (o := ?_) (by kernel_rfl) ?_ (fun Kq hKq => ?_)
          rotate_left
          · simp only [List.getElem?_toArray, List.getElem?_cons_succ, List.getElem?_cons_zero]; rfl
          go_simp
          refine (CS.out _ hHeld).mono ?_
          rintro e w2 ⟨rfl, b2⟩
          have B2 : Hid (Below wr.heap.size wr w2) := thence hHeld b2 (Nat.le_refl _)
          clear b2
          go_wp2_with fail
          refine hKq.out _ _ (B2.out) (fun hHeld => ?_)
          clear hKq Kq
          (try simp only [Act.put, List.setIfInBounds_toArray, List.set_cons_zero, List.set_cons_succ])
          refine PX.wpAnyY_take (i := 9) (oi := ?_) (v := ?_) ?_ (by kernel_rfl) (by kernel_rfl) (by kernel_rfl) (by kernel_rfl) (by kernel_rfl) (fun _ _ _ h => h) (Or.inl ⟨?_, ?_⟩) (by assumption) ?_
          rotate_left 2
          · simp only [List.getElem?_toArray, List.getElem?_cons_succ, List.getElem?_cons_zero]; rfl
          · rfl
          · intro w hSw; (try dsimp only at hSw); go_simp <;> with_reducible rfl
          (try simp only [Act.put, List.setIfInBounds_toArray, List.set_cons_zero, List.set_cons_succ])
          refine PX.wpAnyY_done (by kernel_rfl) ?_ _
          refine NoPanic.normal ?_
          go_wp2_with fail
          go_roundw
          case rel => exact ⟨k + 1, by omega, by go_num, HF.out.next HX.out, thence WB.out B2.out (Nat.le_refl _)⟩
          case measure => simp [intOf]; omega
        · rw [hd] at CS
          have HC := Lib.hid (sameD_not (L := L) (M := M) HKL.out HKM.out (by rw [ED.out, EE.out]; intro h; have := DK.same_iff.2 h; rw [hd] at this; cases this))
          clear hd
          generalize D.dead = dd at *
          generalize E.dead = de at *
          go_wp2_with fail
          refine wp_region_noPanic ?_
          refine PX.wp_region_y (fun w' => Below wr.heap.size wr w') [] (by kernel_rfl) (Below.refl _ _).drew (fun hHeld => ?_)
          refine PX.wpAnyY_take (i := 0) (oi := ?_) (v := ?_) ?_ (by kernel_rfl) (by kernel_rfl) (by kernel_rfl) (by kernel_rfl) (by kernel_rfl) (fun _ _ _ h => h) (Or.inl ⟨?_, ?_⟩) (by assumption) ?_
          rotate_left 2
          · simp only [List.getElem?_toArray, List.getElem?_cons_succ, List.getElem?_cons_zero]; rfl
          · rfl
          · intro w hSw; (try dsimp only at hSw); go_simp <;> with_reducible rfl
          (try simp only [Act.put, List.setIfInBounds_toArray, List.set_cons_zero, List.set_cons_succ])
          refine PX.wpAnyY_take (i := 1) (oi := ?_) (v := ?_) ?_ (by kernel_rfl) (by kernel_rfl) (by kernel_rfl) (by kernel_rfl) (by kernel_rfl) (fun _ _ _ h => h) (Or.inl ⟨?_, ?_⟩) (by assumption) ?_
          rotate_left 2
          · simp only [List.getElem?_toArray, List.getElem?_cons_succ, List.getElem?_cons_zero]; rfl
          · rfl
          · intro w hSw; (try dsimp only at hSw); go_simp <;> with_reducible rfl
          (try simp only [Act.put, List.setIfInBounds_toArray, List.set_cons_zero, List.set_cons_succ])
          refine PX.wpAnyY_take (i := 2) (oi := ?_) (v := ?_) ?_ (by kernel_rfl) (by kernel_rfl) (by kernel_rfl) (by kernel_rfl) (by kernel_rfl) (fun _ _ _ h => h) (Or.inl ⟨?_, ?_⟩) (by assumption) ?_
          rotate_left 2
          · simp only [List.getElem?_toArray, List.getElem?_cons_succ, List.getElem?_cons_zero]; rfl
          · rfl
          · intro w hSw; (try dsimp only at hSw); go_simp <;> with_reducible rfl
          (try simp only [Act.put, List.setIfInBounds_toArray, List.set_cons_zero, List.set_cons_succ])
          refine PX.wpAnyY_take (i := 3) (oi := ?_) (v := ?_) ?_ (by kernel_rfl) (by kernel_rfl) (by kernel_rfl) (by kernel_rfl) (by kernel_rfl) (fun _ _ _ h => h) (Or.inl ⟨?_, ?_⟩) (by assumption) ?_
          rotate_left 2
          · simp only [List.getElem?_toArray, List.getElem?_cons_succ, List.getElem?_cons_zero]; rfl
          · rfl
          · intro w hSw; (try dsimp only at hSw); obtain ⟨p0, p1, p2⟩ := CX.out _ hSw; go_simp <;> with_reducible rfl
          (try simp only [Act.put, List.setIfInBounds_toArray, List.set_cons_zero, List.set_cons_succ])
          refine PX.wpAnyY_take (i := 4) (oi := ?_) (v := ?_) ?_ (by kernel_rfl) (by kernel_rfl) (by kernel_rfl) (by kernel_rfl) (by kernel_rfl) (fun _ _ _ h => h) (Or.inl ⟨?_, ?_⟩) (by assumption) ?_
          rotate_left 2
          · simp only [List.getElem?_toArray, List.getElem?_cons_succ, List.getElem?_cons_zero]; rfl
          · rfl
          · intro w hSw; (try dsimp only at hSw); go_simp <;> with_reducible rfl
          (try simp only [Act.put, List.setIfInBounds_toArray, List.set_cons_zero, List.set_cons_succ])
          refine PX.wpAnyY_take (i := 5) (oi := ?_) (v := ?_) ?_ (by kernel_rfl) (by kernel_rfl) (by kernel_rfl) (by kernel_rfl) (by kernel_rfl) (fun _ _ _ h => h) (Or.inl ⟨?_, ?_⟩) (by assumption) ?_
          rotate_left 2
          · simp only [List.getElem?_toArray, List.getElem?_cons_succ, List.getElem?_cons_zero]; rfl
          · rfl
          · intro w hSw; (try dsimp only at hSw); go_simp <;> with_reducible rfl
          (try simp only [Act.put, List.setIfInBounds_toArray, List.set_cons_zero, List.set_cons_succ])
          refine PX.wpAnyY_take (i := 6) (oi := ?_) (v := ?_) ?_ (by kernel_rfl) (by kernel_rfl) (by kernel_rfl) (by kernel_rfl) (by kernel_rfl) (fun _ _ _ h => h) (Or.inl ⟨?_, ?_⟩) (by assumption) ?_
          rotate_left 2
          · simp only [List.getElem?_toArray, List.getElem?_cons_succ, List.getElem?_cons_zero]; rfl
          · rfl
          · intro w hSw; (try dsimp only at hSw); go_simp <;> with_reducible rfl
          (try simp only [Act.put, List.setIfInBounds_toArray, List.set_cons_zero, List.set_cons_succ])
          refine PX.wpAnyY_take (i := 7) (oi := ?_) (v := ?_) ?_ (by kernel_rfl) (by kernel_rfl) (by kernel_rfl) (by kernel_rfl) (by kernel_rfl) (fun _ _ _ h => h) (Or.inl ⟨?_, ?_⟩) (by assumption) ?_
          rotate_left 2
          · simp only [List.getElem?_toArray, List.getElem?_cons_succ, List.getElem?_cons_zero]; rfl
          · rfl
          · intro w hSw; (try dsimp only at hSw); obtain ⟨p0, p1, p2⟩ := CY.out _ hSw; go_simp <;> with_reducible rfl
          (try simp only [Act.put, List.setIfInBounds_toArray, List.set_cons_zero, List.set_cons_succ])
          refine PX.wpAnyY_one (i := 8) (o := ?_) (by kernel_rfl) ?_ (fun Kq hKq => ?_)
          rotate_left
          · simp only [List.getElem?_toArray, List.getElem?_cons_succ, List.getElem?_cons_zero]; rfl
          go_simp
          refine (CS.out _ hHeld).mono ?_
          rintro e w2 ⟨rfl, b2⟩
          have B2 : Hid (Below wr.heap.size wr w2) := thence hHeld b2 (Nat.le_refl _)
          clear b2
          go_wp2_with fail
          refine hKq.out _ _ (B2.out) (fun hHeld => ?_)
          clear hKq Kq
          (try simp only [Act.put, List.setIfInBounds_toArray, List.set_cons_zero, List.set_cons_succ])
          refine PX.wpAnyY_take (i := 9) (oi := ?_) (v := ?_) ?_ (by kernel_rfl) (by kernel_rfl) (by kernel_rfl) (by kernel_rfl) (by kernel_rfl) (fun _ _ _ h => h) (Or.inl ⟨?_, ?_⟩) (by assumption) ?_
          rotate_left 2
          · simp only [List.getElem?_toArray, List.getElem?_cons_succ, List.getElem?_cons_zero]; rfl
          · rfl
          · intro w hSw; (try dsimp only at hSw); go_simp <;> with_reducible rfl
          (try simp only [Act.put, List.setIfInBounds_toArray, List.set_cons_zero, List.set_cons_succ])
          refine PX.wpAnyY_done (by kernel_rfl) ?_ _
          refine NoPanic.normal ?_
          go_wp2_with fail
          go_ret
          exact ⟨by rw [HC.out]; rfl, thence WB.out B2.out (Nat.le_refl _)⟩
      · obtain rfl : k = n := by omega
        have HC := Lib.hid (AlkD.all (L := L) (M := M) (by rw [← Hn.out]; exact HF.out) HL.out)
        go_wp2_with fail
        go_ret
        exact ⟨by rw [HC.out]; rfl, WB.out⟩
  · have e0 : ((n : Int) == (m : Int)) = false := by rw [beq_eq_false_iff_ne]; omega
    have e1 : ((n : Int) != (m : Int)) = true := by rw [bne, e0]; rfl
    have e2 : ¬ (n : Int) = (m : Int) := by omega
    have HC := Lib.hid (sameD_len (L := L) (M := M) (by rw [← Hn.out, ← Hm.out]; exact hnm))
    go_enter Try.func16, Try.ntmps16
    go_wp2_with fail
    go_ret
    exact ⟨by rw [HC.out]; rfl, Below.refl _ _⟩

set_option maxHeartbeats 1000000 in
theorem longActs_any (a : Option Addr) (len cap : Nat) (L : List Ax) (w : World) (hr : Rg kAx 0 w.heap.size w a len cap L) :
    Calls Try.prog 19 #[.slice a len cap] w (SomeB (len ≤ 1100 ∧ ∀ A ∈ acs L, A.data.length ≤ 100000) w) := by
  have Hn := Lib.hid hr.long
  have hs := hr.small'
  have Hr := Lib.hid hr
  clear hr
  go_enter Try.func19, Try.ntmps19
  go_wp2_with fail
  go_loop [3, 4] (fun m i => ∃ k x : Nat, k ≤ len ∧ k ≤ 1200 ∧ x ≤ k * 100008 ∧ i = .int .i64 k ∧ m = .int .i64 x ∧ ∀ j, j < k → min ((acs L).getD j AK.Ac.nil).data.length 100000 ≤ x) (fun _ i => len - (intOf i).toNat)
  case atStart => exact ⟨0, 0, Nat.zero_le _, Nat.zero_le _, Nat.zero_le _, rfl, rfl, fun j hj => by omega⟩
  case round =>
    obtain ⟨k, x, hk, hk2, hx, rfl, rfl, hall⟩ := hrel
    have HA := Lib.hid hall
    clear hall
    have hx2 : x ≤ 130000000 := by omega
    by_cases hlt : k < len ∧ k < 1200
    · obtain ⟨h1, h2⟩ := hlt
      have i1 : (k : Int) < (len : Int) := by omega
      have i2 : (k : Int) < 1200 := by omega
      have hkL : k < L.length := by rw [← Hn.out]; exact h1
      obtain ⟨ab, off, d1, k1, p1, xa, xn, xc, xl, e1, -, e2, rd, -⟩ := Hr.out.act k hkL
      subst e1
      obtain ⟨c0, c1, c2, c3⟩ := Hr.out.acell hkL e2
      have hl : xn = ((acs L).getD k AK.Ac.nil).data.length := by rw [acs_getD, e2]; exact rd.1.long
      have hsm : xn ≤ 9223372036854775807 := by have h1 := rd.1.long; have h2 := rd.1.fits; have h3 := rd.1.small; unfold maxLen at h3; omega
      have HL := Lib.hid hl
      clear e2 rd hl hkL
      by_cases hm : xn ≤ 100000
      · have i3 : (xn : Int) ≤ 100000 := by omega
        go_wp2_with fail
        go_round
        case rel => exact ⟨k + 1, x + (8 + xn), by omega, by omega, by omega, by go_num, by go_num, fun j hj => by
          by_cases e : j = k
          · subst e; rw [← HL.out]; omega
          · have := HA.out j (by omega); omega⟩
        case measure => simp [intOf]; omega
      · have i3 : ¬ (xn : Int) ≤ 100000 := by omega
        go_wp2_with fail
        go_round
        case rel => exact ⟨k + 1, x + (8 + 100000), by omega, by omega, by omega, by go_num, by go_num, fun j hj => by
          by_cases e : j = k
          · subst e; rw [← HL.out]; omega
          · have := HA.out j (by omega); omega⟩
        case measure => simp [intOf]; omega
    · by_cases h3 : 1100 < len
      · have i4 : (1100 : Int) < (len : Int) := by omega
        by_cases h1 : k < len
        · have i1 : (k : Int) < (len : Int) := by omega
          have i2 : ¬ (k : Int) < 1200 := by omega
          have i3 : decide ((k : Int) < 1200) = false := by simpa using i2
          clear hlt
          go_wp2_with fail
          go_ret
          exact ⟨true, rfl, (fun h => by cases h), Below.refl _ _⟩
        · have i1 : ¬ (k : Int) < (len : Int) := by omega
          clear hlt
          go_wp2_with fail
          go_ret
          exact ⟨true, rfl, (fun h => by cases h), Below.refl _ _⟩
      · have i4 : ¬ (1100 : Int) < (len : Int) := by omega
        have i1 : ¬ (k : Int) < (len : Int) := by omega
        have hkl : k = len := by omega
        by_cases h5 : 60000 < x
        · have i5 : (60000 : Int) < (x : Int) := by omega
          clear hlt
          go_wp2_with fail
          go_ret
          exact ⟨true, rfl, (fun h => by cases h), Below.refl _ _⟩
        · have i5 : ¬ (60000 : Int) < (x : Int) := by omega
          have i6 : decide ((60000 : Int) < (x : Int)) = false := by simpa using i5
          clear hlt
          go_wp2_with fail
          go_ret
          refine ⟨false, rfl, fun _ => ⟨by omega, AK.all_getD (d := AK.Ac.nil) (fun j hj => ?_)⟩, Below.refl _ _⟩
          have := HA.out j (by rw [acs_length] at hj; have := Hn.out; omega)
          omega

set_option maxHeartbeats 2000000 in
theorem greatDs_any (a : Option Addr) (len cap : Nat) (L : List Dn) (w : World) (hr : Rg kDn 0 w.heap.size w a len cap L) :
    Calls Try.prog 18 #[.slice a len cap] w (SomeB (len ≤ 30 ∧ ∀ D ∈ devs L, DK.great D = false) w) := by
  have Hn := Lib.hid hr.long
  have hs := hr.small'
  have Hr := Lib.hid hr
  clear hr
  go_enter Try.func18, Try.ntmps18
  go_wp2_with fail
  go_loopw [3, 4] (fun m i wr => ∃ k x : Nat, k ≤ len ∧ k ≤ 30 ∧ x ≤ 60000 ∧ i = .int .i64 k ∧ m = .int .i64 x ∧ (∀ j, j < k → DK.great ((devs L).getD j Dv.nil) = false) ∧ Below w.heap.size w wr) (fun _ i _ => len - (intOf i).toNat)
  case atStart => exact ⟨0, 0, Nat.zero_le _, Nat.zero_le _, Nat.zero_le _, rfl, rfl, fun j hj => by omega, Below.refl _ _⟩
  case round =>
    obtain ⟨k, x, hk, hk2, hx, rfl, rfl, hall, hbw⟩ := hrel
    have HA := Lib.hid hall
    have WB := Lib.hid hbw
    clear hall hbw
    by_cases hlt : k < len ∧ k < 30
    · obtain ⟨h1, h2⟩ := hlt
      have i1 : (k : Int) < (len : Int) := by omega
      have i2 : (k : Int) < 30 := by omega
      have hkL : k < L.length := by rw [← Hn.out]; exact h1
      obtain ⟨ab, off, xa, xn, xc, xa', xn', xc', D, e1, -, e2, dv⟩ := Hr.out.dev k hkL
      subst e1
      have ED : Hid ((devs L).getD k Dv.nil = D) := by show _ = _; rw [devs_getD, e2]
      have DV := Lib.hid (((dv.keep (.ofBelow WB.out (Nat.le_refl _))).mono (Nat.le_refl _) WB.out.size).at)
      have CX : Hid (∀ w', Below wr.heap.size wr w' → w'.cell? ⟨ab, off + k * 3, none⟩ = some (.slice xa xn xc) ∧ w'.cell? ⟨ab, off + k * 3 + 1, none⟩ = some (.slice xa' xn' xc') ∧ w'.cell? ⟨ab, off + k * 3 + 2, none⟩ = some (.bool D.dead)) := fun w' h =>
        (Hr.out.below (thence WB.out h (Nat.le_refl _)) (Nat.le_refl _)).dcell hkL e2
      have CG := Lib.hid (great_any xa xn xc xa' xn' xc' D wr DV.out)
      obtain ⟨c0, c1, c2⟩ := CX.out wr (Below.refl _ _)
      clear e2 dv hkL
      rcases Bool.eq_false_or_eq_true (DK.great D) with hg | hg
      · rw [hg] at CG
        clear hg
        generalize D.dead = dd at *
        go_wp2_with fail
        refine CG.out.mono ?_
        rintro e w2 ⟨rfl, b2⟩
        go_wp2_with fail
        go_ret
        exact ⟨true, rfl, (fun h => by cases h), thence WB.out b2 (Nat.le_refl _)⟩
      · rw [hg] at CG
        have HG := Lib.hid hg
        obtain ⟨g1, g2, g3, g4⟩ := DK.great_no hg
        have hxn : xn ≤ 300 := by rw [DV.out.long.1]; exact g1
        have hxn' : xn' ≤ 1100 := by rw [DV.out.long.2]; exact g2
        have BS : Hid (∀ j, j < xn → ∃ b o za zn zc, xa = some ⟨b, o, none⟩ ∧ zn ≤ 60000 ∧ ∀ w', Below wr.heap.size wr w' → w'.cell? ⟨b, o + j, none⟩ = some (.slice za zn zc)) := fun j hj => by
          obtain ⟨b, o, za, zn, zc, zl, e1, e2, e3, e4, e5⟩ := DV.out.at j hj
          exact ⟨b, o, za, zn, zc, e1, by rw [e5.long, ← e3]; exact g3 _ (mem_getD (by rw [← DV.out.long.1]; exact hj)), fun w' h => by rw [h.cell (p := ⟨b, o + j, none⟩) e2]; exact e4⟩
        have WS : Hid (∀ j, j < xn' → ∃ b o za zn zc, xa' = some ⟨b, o, none⟩ ∧ zn ≤ 60000 ∧ ∀ w', Below wr.heap.size wr w' → w'.cell? ⟨b, o + j * 2 + 1, none⟩ = some (.slice za zn zc)) := fun j hj => by
          obtain ⟨b, o, m, za, zn, zc, zl, e1, e2, e3, e4, e5, e6⟩ := DV.out.wat j hj
          exact ⟨b, o, za, zn, zc, e1, by
            rw [e6.long]
            have := g4 _ (AK.mem_get (d := (0, [])) (show j < D.ws.length by rw [← DV.out.long.2]; exact hj))
            rw [e3] at this; exact this, fun w' h => by rw [h.cell (p := ⟨b, o + j * 2 + 1, none⟩) e2]; exact e5⟩
        clear hg g1 g2 g3 g4
        generalize D.dead = dd at *
        go_wp2_with fail
        refine CG.out.mono ?_
        rintro e w2 ⟨rfl, b2⟩
        have B2 := Lib.hid b2
        clear b2 c0 c1 c2
        go_wp2_with fail
        go_loop [3, 5] (fun m i => ∃ j y : Nat, j ≤ xn ∧ y ≤ 60000 + j * 60008 ∧ i = .int .i64 j ∧ m = .int .i64 y) (fun _ i => xn - (intOf i).toNat)
        case atStart => exact ⟨0, x, Nat.zero_le _, by omega, rfl, rfl⟩
        case round =>
          obtain ⟨j, y, hj, hy, rfl, rfl⟩ := hrel
          obtain ⟨c0, c1, c2⟩ := CX.out w2 B2.out
          have hy2 : y ≤ 20000000 := by omega
          by_cases hjl : j < xn
          · obtain ⟨zb, zo, za, zn, zc, ez, hz, hcz⟩ := BS.out j hjl
            subst ez
            have hcz2 := hcz w2 B2.out
            clear hcz
            go_wp2_with fail
            go_round
            case rel => exact ⟨j + 1, y + (8 + zn), by omega, by omega, by go_num, by go_num⟩
            case measure => simp [intOf]; omega
          · obtain rfl : j = xn := by omega
            have hy3 : y ≤ 18062400 := by omega
            go_wp2_with fail
            go_loop [3, 6] (fun m i => ∃ q z : Nat, q ≤ xn' ∧ z ≤ 18062400 + q * 60008 ∧ i = .int .i64 q ∧ m = .int .i64 z) (fun _ i => xn' - (intOf i).toNat)
            case atStart => exact ⟨0, y, Nat.zero_le _, by omega, rfl, rfl⟩
            case round =>
              obtain ⟨q, z, hq, hz, rfl, rfl⟩ := hrel
              have hz2 : z ≤ 200000000 := by omega
              by_cases hql : q < xn'
              · obtain ⟨zb, zo, za, zn, zc, ez, hz, hcz⟩ := WS.out q hql
                subst ez
                have hcz2 := hcz w2 B2.out
                clear hcz
                go_wp2_with fail
                go_round
                case rel => exact ⟨q + 1, z + (8 + zn), by omega, by omega, by go_num, by go_num⟩
                case measure => simp [intOf]; omega
              · obtain rfl : q = xn' := by omega
                by_cases h6 : 60000 < z
                · have i6 : (60000 : Int) < (z : Int) := by omega
                  go_wp2_with fail
                  go_ret
                  exact ⟨true, rfl, (fun h => by cases h), thence WB.out B2.out (Nat.le_refl _)⟩
                · have i6 : ¬ (60000 : Int) < (z : Int) := by omega
                  go_wp2_with fail
                  go_roundw
                  case rel => exact ⟨k + 1, z, by omega, by omega, by omega, by go_num, rfl, fun j hj => (by
                    by_cases e : j = k
                    · subst e; rw [ED.out]; exact HG.out
                    · exact HA.out j (by omega)), thence WB.out B2.out (Nat.le_refl _)⟩
                  case measure => simp [intOf]; omega
    · by_cases h3 : 30 < len
      · have i4 : (30 : Int) < (len : Int) := by omega
        have i1 : (k : Int) < (len : Int) := by omega
        have i2 : ¬ (k : Int) < 30 := by omega
        have i3 : decide ((k : Int) < 30) = false := by simpa using i2
        clear hlt
        go_wp2_with fail
        go_ret
        exact ⟨true, rfl, (fun h => by cases h), WB.out⟩
      · have i4 : ¬ (30 : Int) < (len : Int) := by omega
        have i1 : ¬ (k : Int) < (len : Int) := by omega
        have i6 : decide ((30 : Int) < (len : Int)) = false := by simpa using i4
        have hkl : k = len := by omega
        clear hlt
        go_wp2_with fail
        go_ret
        exact ⟨false, rfl, fun _ => ⟨by omega, AK.all_getD (d := Dv.nil) (fun j hj => HA.out j (by rw [devs_length] at hj; have := Hn.out; omega))⟩, WB.out⟩
end Go.Proofs.Ytnhfkfihlkbkfaa.PW
