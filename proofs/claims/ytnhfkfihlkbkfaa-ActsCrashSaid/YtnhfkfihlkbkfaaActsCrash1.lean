/-
  ActsCrash's walk: how many writes wait and devices behind a crash are the document's; what is answered is new memory.
-/
import Derived.Test.YtnhfkfihlkbkfaaActsLawMath2
import Derived.Test.YtnhfkfihlkbkfaaActsGreat
import Derived.Test.YtnhfkfihlkbkfaaActsRefTwin
import Derived.Test.YtnhfkfihlkbkfaaActsRefCrash
import Derived.Test.YtnhfkfihlkbkfaaActsSpoil
namespace Go.Proofs.Ytnhfkfihlkbkfaa.PW
open Go.RowKit
open DK (Dv)
set_option linter.unusedVariables false
set_option linter.unusedSimpArgs false
set_option maxRecDepth 100000

set_option maxHeartbeats 2000000 in
theorem crash_walk (a0 : Option Addr) (n0 c0 : Nat) (L : List Dn) (a1 : Option Addr) (n1 c1 : Nat) (ks : List Bool) (w : World) (r0 : Rg kDn 0 w.heap.size w a0 n0 c0 L) (r1 : Rg kBool 0 w.heap.size w a1 n1 c1 ks) :
    Calls Try.prog 5 #[.slice a0 n0 c0, .slice a1 n1 c1] w fun e w' => e = .returned (.bool true) ∧ Below w.heap.size w w' := by
  have R0 := Lib.hid r0
  have R1 := Lib.hid r1
  have hs1 := r1.small'
  clear r0 r1
  have CG : Hid (Calls Try.prog 18 #[.slice a0 n0 c0] w (SomeB (n0 ≤ 30 ∧ ∀ D ∈ devs L, DK.great D = false) w)) := greatDs_any a0 n0 c0 L w R0.out
  go_enter Try.func5, Try.ntmps5
  go_wp2_with fail
  refine CG.out.mono ?_
  rintro e w1 ⟨g1, rfl, hg1, b1⟩
  have B3 := Lib.hid b1
  clear b1
  cases g1 with
  | true =>
    clear hg1
    go_wp2_with fail
    go_ret
    exact ⟨rfl, B3.out⟩
  | false =>
  have HG := Lib.hid (hg1 rfl)
  clear hg1
  by_cases hk : 30000 < n1
  · have ik : (30000 : Int) < (n1 : Int) := by omega
    clear hk
    go_wp2_with fail
    go_ret
    exact ⟨rfl, B3.out⟩
  have ik : ¬ (30000 : Int) < (n1 : Int) := by omega
  clear hk CG
  have FL : Hid (∀ D ∈ devs L, Fit D) := fun D hD => fit_of (HG.out.2 D hD)
  have CT : Hid (Calls Try.prog 20 #[.slice a0 n0 c0] w1 (NewDv w1 (devs L))) := refTwinDs_any a0 n0 c0 L w1 (R0.out.here B3.out) FL.out (by have := HG.out.1; omega)
  go_wp2_with fail
  refine CT.out.mono ?_
  rintro e w5 ⟨a4, n4, c4, N, rfl, r4, d4, b4⟩
  have B5 := Lib.hid (thence B3.out b4 (Nat.le_refl _))
  have R4 := Lib.hid r4
  have D4 := Lib.hid d4
  clear b4 r4 d4 CT B3
  have CR : Hid (Calls Try.prog 13 #[.slice a4 n4 c4, .slice a1 n1 c1] w5 (DsEnd w5 (AK.crashed (devs L) ks AK.cut) (AK.ccode (devs L) ks))) := by
    have := crash_any a4 n4 c4 N a1 n1 c1 ks w5 R4.out (R1.out.here B5.out)
    rw [D4.out] at this
    exact this
  go_wp2_with fail
  refine CR.out.mono ?_
  rintro e w6 ⟨v6, rfl, ⟨a6, n6, c6, P, rfl, r6, d6, o6⟩, b6⟩
  have BB6 := Lib.hid b6
  have R6 := Lib.hid (r6.mono (Nat.zero_le _) (Nat.le_refl _))
  have D6 := Lib.hid d6
  have O6 := Lib.hid o6
  clear b6 r6 d6 o6 CR
  have CF : Hid (∀ w7, Below w.heap.size w w7 → Calls Try.prog 27 #[.slice a0 n0 c0, .slice a1 n1 c1] w7 (RefDs w7 (AK.crashed (devs L) ks AK.rcut) (AK.ccode (devs L) ks))) := fun w7 h => refCrash_any a0 n0 c0 L a1 n1 c1 ks w7 (R0.out.here h) (R1.out.here h)
  go_wp2_with fail
  refine (CF.out _ (thence B5.out BB6.out (Nat.le_refl _))).mono ?_
  rintro e w7 ⟨a7, n7, c7, Q, rfl, r7, d7, b7⟩
  have BB7 := Lib.hid (thence BB6.out b7 (Nat.le_refl _))
  have R6 := Lib.hid (R6.out.here b7)
  have O6 : Hid (∀ x ∈ P, OwnI w5.heap.size w7.heap.size w7 x) := fun x hx => (O6.out x hx).here b7
  have R7 := Lib.hid r7
  have D7 := Lib.hid d7
  clear b7 r7 d7 CF BB6
  have CW1 : Hid (Calls Try.prog 28 #[.slice a4 n4 c4] w7 fun e w' => e = .returned (.tuple #[.int .i64 (wcount (devs L) : Nat), .int .i64 (AK.dcode (devs L) : Nat)]) ∧ Below w7.heap.size w7 w') := by
    have := waits_any a4 n4 c4 N w7 (R4.out.here BB7.out)
    rw [D4.out] at this
    exact this
  have CW2 : Hid (∀ w9, Below w.heap.size w w9 → Calls Try.prog 29 #[.slice a0 n0 c0] w9 fun e w' => e = .returned (.tuple #[.int .i64 (wcount (devs L) : Nat), .int .i64 (AK.dcode (devs L) : Nat)]) ∧ Below w9.heap.size w9 w') := fun w9 h => refWaits_any a0 n0 c0 L w9 (R0.out.here h)
  have FR := Lib.hid (crashed_fit (devs L) ks)
  have SN := Lib.hid (crashed_norm (devs L) ks)
  generalize AK.crashed (devs L) ks AK.cut = X1 at *
  generalize AK.crashed (devs L) ks AK.rcut = X2 at *
  generalize AK.ccode (devs L) ks = q at *
  generalize wcount (devs L) = wc at *
  generalize AK.dcode (devs L) = dc at *
  go_wp2_with fail
  refine CW1.out.mono ?_
  rintro e w8 ⟨rfl, b8⟩
  have BB8 := Lib.hid (thence BB7.out b8 (Nat.le_refl _))
  have R6 := Lib.hid (R6.out.here b8)
  have R7 := Lib.hid (R7.out.here b8)
  have O6 : Hid (∀ x ∈ P, OwnI w5.heap.size w8.heap.size w8 x) := fun x hx => (O6.out x hx).here b8
  clear b8 CW1 BB7
  go_wp2_with fail
  refine (CW2.out _ (thence B5.out BB8.out (Nat.le_refl _))).mono ?_
  rintro e w9 ⟨rfl, b9⟩
  have BB9 := Lib.hid (thence BB8.out b9 (Nat.le_refl _))
  have R6 := Lib.hid (R6.out.here b9)
  have R7 := Lib.hid (R7.out.here b9)
  have O6 : Hid (∀ x ∈ P, OwnI w5.heap.size w9.heap.size w9 x) := fun x hx => (O6.out x hx).here b9
  clear b9 CW2 BB8
  have CS : Hid (Calls Try.prog 16 #[.slice a6 n6 c6, .slice a7 n7 c7] w9 fun e w' => e = .returned (.bool true) ∧ Below w9.heap.size w9 w') := by
    have := refSameDs_any a6 n6 c6 P a7 n7 c7 Q w9 R6.out R7.out (by rw [D6.out]; exact FR.out.1) (by rw [D7.out]; exact FR.out.2)
    rw [D6.out, D7.out, SN.out] at this
    exact this
  clear FR SN R7 D7 D6
  go_wp2_with fail
  refine CS.out.mono ?_
  rintro e w10 ⟨rfl, b10⟩
  have BB10 := Lib.hid (thence BB9.out b10 (Nat.le_refl _))
  have R6 := Lib.hid (R6.out.here b10)
  have O6 : Hid (∀ x ∈ P, OwnI w5.heap.size w10.heap.size w10 x) := fun x hx => (O6.out x hx).here b10
  clear b10 CS BB9
  have CP := Lib.hid (spoilDs_any w5.heap.size a6 n6 c6 P w10 R6.out O6.out)
  go_wp2_with fail
  refine CP.out.mono ?_
  rintro e w11 ⟨⟨v11, rfl⟩, b11⟩
  have BB11 := Lib.hid (BB10.out.trans b11)
  have hs6 := R6.out.small'
  have hs4 := R4.out.small'
  clear b11 CP R6 O6 BB10
  go_wp2_with fail
  go_loopw [14, 15] (fun o i wr => ∃ k : Nat, k ≤ n6 ∧ k ≤ n4 ∧ i = .int .i64 k ∧ o = .bool true ∧ Below w5.heap.size w5 wr) (fun _ i _ => n6 - (intOf i).toNat)
  case atStart => exact ⟨0, Nat.zero_le _, Nat.zero_le _, rfl, rfl, BB11.out⟩
  case round =>
    obtain ⟨k, hk6, hk4, rfl, rfl, hbw⟩ := hrel
    have WB := Lib.hid hbw
    have WB0 := Lib.hid (thence B5.out hbw (Nat.le_refl _))
    clear hbw
    have Hn0 := Lib.hid R0.out.long
    have Hn4 := Lib.hid R4.out.long
    have HLN : Hid (N.length = L.length) := by show _ = _; rw [← devs_length, ← devs_length, D4.out]
    by_cases hlt : k < n6
    · have i6 : (k : Int) < (n6 : Int) := by omega
      by_cases hlt4 : k < n4
      · have i4 : (k : Int) < (n4 : Int) := by omega
        have i0 : (k : Int) < (n0 : Int) := by have h1 := Hn0.out; have h2 := Hn4.out; have h3 := HLN.out; omega
        have hkL : k < L.length := by have h1 := Hn0.out; have h2 := Hn4.out; have h3 := HLN.out; omega
        have hkN : k < N.length := by have h2 := Hn4.out; omega
        obtain ⟨ab, off, xa, xn, xc, xa', xn', xc', D, e1, -, e2, dv⟩ := R4.out.dev k hkN
        obtain ⟨bb, off', ya, yn, yc, ya', yn', yc', E, e1', -, e2', dv'⟩ := R0.out.dev k hkL
        subst e1 e1'
        have ED : (devs N).getD k Dv.nil = D := by rw [devs_getD, e2]
        have EE : (devs L).getD k Dv.nil = E := by rw [devs_getD, e2']
        obtain rfl : D = E := by rw [← ED, ← EE, D4.out]
        have CX : Hid (∀ w', Below wr.heap.size wr w' → w'.cell? ⟨ab, off + k * 3, none⟩ = some (.slice xa xn xc) ∧ w'.cell? ⟨ab, off + k * 3 + 1, none⟩ = some (.slice xa' xn' xc') ∧ w'.cell? ⟨ab, off + k * 3 + 2, none⟩ = some (.bool D.dead)) := fun w' h =>
          (R4.out.below (thence WB.out h (Nat.le_refl _)) (Nat.le_refl _)).dcell hkN e2
        have CY : Hid (∀ w', Below wr.heap.size wr w' → w'.cell? ⟨bb, off' + k * 3, none⟩ = some (.slice ya yn yc) ∧ w'.cell? ⟨bb, off' + k * 3 + 1, none⟩ = some (.slice ya' yn' yc') ∧ w'.cell? ⟨bb, off' + k * 3 + 2, none⟩ = some (.bool D.dead)) := fun w' h =>
          (R0.out.below (thence WB0.out h (Nat.le_refl _)) (Nat.le_refl _)).dcell hkL e2'
        have CS : Hid (∀ w', Below wr.heap.size wr w' → Calls Try.prog 30 #[.agg #[.slice xa xn xc, .slice xa' xn' xc', .bool D.dead], .agg #[.slice ya yn yc, .slice ya' yn' yc', .bool D.dead]] w' fun e w2 => e = .returned (.bool true) ∧ Below w'.heap.size w' w2) := fun w' h => by
          have hf : Fit D := FL.out D (by rw [← EE]; exact AK.mem_get (by rw [devs_length]; exact hkL))
          have := refSame_any xa xn xc xa' xn' xc' D ya yn yc ya' yn' yc' D w' ((((dv.keep (.ofBelow WB.out (Nat.le_refl _))).mono (Nat.le_refl _) WB.out.size).at).here h) ((((dv'.keep (.ofBelow WB0.out (Nat.le_refl _))).mono (Nat.le_refl _) WB0.out.size).at).here h) hf hf
          rw [DK.same_self] at this
          exact this
        clear e2 e2' dv dv' hkL hkN ED EE
        generalize D.dead = dd at *
        have Hlt := Lib.hid hlt
        clear hlt
        go_wp2_with fail
        refine wp_region_noPanic ?_
        refine PX.wp_region_y (fun w' => Below wr.heap.size wr w') [12] (by kernel_rfl) (Below.refl _ _).drew (fun hHeld => ?_)
        refine PX.wpAnyY_take (i := 0) (oi := ?_) (v := ?_) ?_ (by kernel_rfl) (by kernel_rfl) (by kernel_rfl) (by kernel_rfl) (by kernel_rfl) (fun _ _ _ h => h) (Or.inl ⟨?_, ?_⟩) (by assumption) ?_
        rotate_left 2
        · simp only [List.getElem?_toArray, List.getElem?_cons_succ, List.getElem?_cons_zero]; rfl
        · rfl
        · intro w hSw; (try dsimp only at hSw); go_simp <;> with_reducible rfl
        (try simp only [Act.put, List.setIfInBounds_toArray, List.set_cons_zero, List.set_cons_succ])
        refine PX.wpAnyY_take (i := 1) (oi := ?_) (v := ?_) ?_ (by kernel_rfl) (by kernel_rfl) (by kernel_rfl) (by kernel_rfl) (by kernel_rfl) (fun _ _ _ h => h) (Or.inl ⟨?_, ?_⟩) (by assumption) ?_
        rotate_left 2
        · simp only [List.getElem?_toArray, List.getElem?_cons_succ, List.getElem?_cons_zero]; rfl
        · rfl
        · intro w hSw; (try dsimp only at hSw); go_simp <;> with_reducible rfl
        (try simp only [Act.put, List.setIfInBounds_toArray, List.set_cons_zero, List.set_cons_succ])
        refine PX.wpAnyY_take (i := 2) (oi := ?_) (v := ?_) ?_ (by kernel_rfl) (by kernel_rfl) (by kernel_rfl) (by kernel_rfl) (by kernel_rfl) (fun _ _ _ h => h) (Or.inl ⟨?_, ?_⟩) (by assumption) ?_
        rotate_left 2
        · simp only [List.getElem?_toArray, List.getElem?_cons_succ, List.getElem?_cons_zero]; rfl
        · rfl
        · intro w hSw; (try dsimp only at hSw); go_simp <;> with_reducible rfl
        (try simp only [Act.put, List.setIfInBounds_toArray, List.set_cons_zero, List.set_cons_succ])
        refine PX.wpAnyY_take (i := 3) (oi := ?_) (v := ?_) ?_ (by kernel_rfl) (by kernel_rfl) (by kernel_rfl) (by kernel_rfl) (by kernel_rfl) (fun _ _ _ h => h) (Or.inl ⟨?_, ?_⟩) (by assumption) ?_
        rotate_left 2
        · simp only [List.getElem?_toArray, List.getElem?_cons_succ, List.getElem?_cons_zero]; rfl
        · rfl
        · intro w hSw; (try dsimp only at hSw); go_simp <;> with_reducible rfl
        (try simp only [Act.put, List.setIfInBounds_toArray, List.set_cons_zero, List.set_cons_succ])
        refine PX.wpAnyY_take (i := 4) (oi := ?_) (v := ?_) ?_ (by kernel_rfl) (by kernel_rfl) (by kernel_rfl) (by kernel_rfl) (by kernel_rfl) (fun _ _ _ h => h) (Or.inl ⟨?_, ?_⟩) (by assumption) ?_
        rotate_left 2
        · simp only [List.getElem?_toArray, List.getElem?_cons_succ, List.getElem?_cons_zero]; rfl
        · rfl
        · intro w hSw; (try dsimp only at hSw); go_simp <;> with_reducible rfl
        (try simp only [Act.put, List.setIfInBounds_toArray, List.set_cons_zero, List.set_cons_succ])
        refine PX.wpAnyY_take (i := 5) (oi := ?_) (v := ?_) ?_ (by kernel_rfl) (by kernel_rfl) (by kernel_rfl) (by kernel_rfl) (by kernel_rfl) (fun _ _ _ h => h) (Or.inl ⟨?_, ?_⟩) (by assumption) ?_
        rotate_left 2
        · simp only [List.getElem?_toArray, List.getElem?_cons_succ, List.getElem?_cons_zero]; rfl
        · rfl
        · intro w hSw; (try dsimp only at hSw); obtain ⟨p0, p1, p2⟩ := CX.out _ hSw; go_simp <;> with_reducible rfl
        (try simp only [Act.put, List.setIfInBounds_toArray, List.set_cons_zero, List.set_cons_succ])
        refine PX.wpAnyY_take (i := 6) (oi := ?_) (v := ?_) ?_ (by kernel_rfl) (by kernel_rfl) (by kernel_rfl) (by kernel_rfl) (by kernel_rfl) (fun _ _ _ h => h) (Or.inl ⟨?_, ?_⟩) (by assumption) ?_
        rotate_left 2
        · simp only [List.getElem?_toArray, List.getElem?_cons_succ, List.getElem?_cons_zero]; rfl
        · rfl
        · intro w hSw; (try dsimp only at hSw); go_simp <;> with_reducible rfl
        (try simp only [Act.put, List.setIfInBounds_toArray, List.set_cons_zero, List.set_cons_succ])
        refine PX.wpAnyY_take (i := 7) (oi := ?_) (v := ?_) ?_ (by kernel_rfl) (by kernel_rfl) (by kernel_rfl) (by kernel_rfl) (by kernel_rfl) (fun _ _ _ h => h) (Or.inl ⟨?_, ?_⟩) (by assumption) ?_
        rotate_left 2
        · simp only [List.getElem?_toArray, List.getElem?_cons_succ, List.getElem?_cons_zero]; rfl
        · rfl
        · intro w hSw; (try dsimp only at hSw); go_simp <;> with_reducible rfl
        (try simp only [Act.put, List.setIfInBounds_toArray, List.set_cons_zero, List.set_cons_succ])
        refine PX.wpAnyY_take (i := 8) (oi := ?_) (v := ?_) ?_ (by kernel_rfl) (by kernel_rfl) (by kernel_rfl) (by kernel_rfl) (by kernel_rfl) (fun _ _ _ h => h) (Or.inl ⟨?_, ?_⟩) (by assumption) ?_
        rotate_left 2
        · simp only [List.getElem?_toArray, List.getElem?_cons_succ, List.getElem?_cons_zero]; rfl
        · rfl
        · intro w hSw; (try dsimp only at hSw); go_simp <;> with_reducible rfl
        (try simp only [Act.put, List.setIfInBounds_toArray, List.set_cons_zero, List.set_cons_succ])
        refine PX.wpAnyY_take (i := 9) (oi := ?_) (v := ?_) ?_ (by kernel_rfl) (by kernel_rfl) (by kernel_rfl) (by kernel_rfl) (by kernel_rfl) (fun _ _ _ h => h) (Or.inl ⟨?_, ?_⟩) (by assumption) ?_
        rotate_left 2
        · simp only [List.getElem?_toArray, List.getElem?_cons_succ, List.getElem?_cons_zero]; rfl
        · rfl
        · intro w hSw; (try dsimp only at hSw); obtain ⟨p0, p1, p2⟩ := CY.out _ hSw; go_simp <;> with_reducible rfl
        (try simp only [Act.put, List.setIfInBounds_toArray, List.set_cons_zero, List.set_cons_succ])
        refine PX.wpAnyY_one (i := 10) (o := ?_) (by kernel_rfl) ?_ (fun Kq hKq => ?_)
        rotate_left
        · simp only [List.getElem?_toArray, List.getElem?_cons_succ, List.getElem?_cons_zero]; rfl
        go_simp
        refine (CS.out _ hHeld).mono ?_
        rintro e w12 ⟨rfl, b12⟩
        have B12 := Lib.hid (thence hHeld b12 (Nat.le_refl _))
        clear b12
        go_wp2_with fail
        refine hKq.out _ _ (B12.out) (fun hHeld => ?_)
        clear hKq Kq
        (try simp only [Act.put, List.setIfInBounds_toArray, List.set_cons_zero, List.set_cons_succ])
        refine PX.wpAnyY_one (i := 11) (o := ?_) (by kernel_rfl) ?_ (fun Kq hKq => ?_)
        rotate_left
        · simp only [List.getElem?_toArray, List.getElem?_cons_succ, List.getElem?_cons_zero]; rfl
        go_simp
        refine hKq.out _ _ (B12.out) (fun hHeld => ?_)
        clear hKq Kq
        (try simp only [Act.put, List.setIfInBounds_toArray, List.set_cons_zero, List.set_cons_succ])
        refine PX.wpAnyY_free (i := 12) (o := ?_) (by kernel_rfl) (by kernel_rfl) ?_ (fun Kq hKq => ?_)
        rotate_left
        · simp only [List.getElem?_toArray, List.getElem?_cons_succ, List.getElem?_cons_zero]; rfl
        go_simp
        refine hKq.out _ _ ?_
        clear hKq Kq
        (try simp only [Act.put, List.setIfInBounds_toArray, List.set_cons_zero, List.set_cons_succ])
        refine PX.wpAnyY_done (by kernel_rfl) ?_ _
        refine NoPanic.normal ?_
        go_wp2_with fail
        go_roundw
        case rel => exact ⟨k + 1, Hlt.out, by omega, by go_num, rfl, thence WB.out B12.out (Nat.le_refl _)⟩
        case measure => have := Hlt.out; simp [intOf]; omega
      · have i4 : ¬ (k : Int) < (n4 : Int) := by omega
        clear hlt4
        have CS2 : Hid (Calls Try.prog 16 #[.slice a4 n4 c4, .slice a0 n0 c0] wr fun e w' => e = .returned (.bool true) ∧ Below wr.heap.size wr w') := by
          have := refSameDs_any a4 n4 c4 N a0 n0 c0 L wr (R4.out.here WB.out) (R0.out.here WB0.out) (by rw [D4.out]; exact FL.out) FL.out
          rw [D4.out, sameD_refl] at this
          exact this
        go_wp2_with fail
        refine CS2.out.mono ?_
        rintro e w12 ⟨rfl, b12⟩
        have BF := Lib.hid (thence WB0.out b12 (Nat.le_refl _))
        clear b12 CS2
        go_wp2_with fail
        go_ret
        exact ⟨rfl, BF.out⟩
    · have i6 : ¬ (k : Int) < (n6 : Int) := by omega
      clear hlt
      have CS2 : Hid (Calls Try.prog 16 #[.slice a4 n4 c4, .slice a0 n0 c0] wr fun e w' => e = .returned (.bool true) ∧ Below wr.heap.size wr w') := by
        have := refSameDs_any a4 n4 c4 N a0 n0 c0 L wr (R4.out.here WB.out) (R0.out.here WB0.out) (by rw [D4.out]; exact FL.out) FL.out
        rw [D4.out, sameD_refl] at this
        exact this
      go_wp2_with fail
      refine CS2.out.mono ?_
      rintro e w12 ⟨rfl, b12⟩
      have BF := Lib.hid (thence WB0.out b12 (Nat.le_refl _))
      clear b12 CS2
      go_wp2_with fail
      go_ret
      exact ⟨rfl, BF.out⟩
end Go.Proofs.Ytnhfkfihlkbkfaa.PW
