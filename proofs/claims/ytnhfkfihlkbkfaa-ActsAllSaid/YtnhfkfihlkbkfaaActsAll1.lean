/-
  ActsAll's walk: with all marks true devices are as behind a flush, with none as if nothing had waited.
-/
import Derived.Test.YtnhfkfihlkbkfaaActsLawMath2
import Derived.Test.YtnhfkfihlkbkfaaActsGreat
import Derived.Test.YtnhfkfihlkbkfaaActsAlive
namespace Go.Proofs.Ytnhfkfihlkbkfaa.PW
open Go.RowKit
open DK (Dv)
set_option linter.unusedVariables false
set_option linter.unusedSimpArgs false
set_option maxRecDepth 100000

theorem made_bools (n : Nat) : madeCells (Value.bool false).cells (n * 1) = ((List.replicate n false).map Value.bool).toArray := by
  apply Array.toList_inj.1
  have hc : (Value.bool false).cells = #[Value.bool false] := rfl
  simp only [madeCells, hc]
  apply List.ext_getElem
  · simp
  · intro i h1 h2
    simp [Nat.mod_one]
theorem run_make_bools (w : World) (n : Nat) (hn : n ≤ 1000000) :
    (Instr.makeSlice 30 (.int .i64 n) (.int .i64 n)).run Try.prog w = .ok (.slice (some ⟨w.heap.size, 0, none⟩) n n) (w.alloc (.cells ((List.replicate n false).map Value.bool).toArray 4)) := by
  have info : (Try.prog.info? 4).map (fun i => (i.zero, i.size, i.bytes)) = some (some (.bool false), 1, 1) := by kernel_rfl
  obtain ⟨i, hi, hz0, hz1, hz2⟩ := info_parts info
  have := run_make (P := Try.prog) w 30 4 i (.bool false) Try.underlying30 hi hz0 .i64 .i64 n n (by omega) (Int.le_refl _) (by rw [hz2]; omega) (by omega)
  rw [hz1] at this
  simp only [Int.toNat_natCast] at this
  rw [this, made_bools]
theorem bool_row (L : List Bool) : kBool.row L = L.map Value.bool := by
  show L.flatMap (fun b => [Value.bool b]) = _
  rw [List.map_eq_flatMap]
/-- Marks that lie in a block by themselves. -/
theorem marks_rg {w : World} {g : Nat} {L : List Bool} (h : Bx w g (L.map Value.bool)) (hL : L.length ≤ 1000000) : Rg kBool 0 w.heap.size w (some ⟨g, 0, none⟩) L.length L.length L := by
  rw [← bool_row] at h
  exact Rg.ofBx h (Nat.zero_le _) h.lt (by unfold maxLen; omega) (fun _ _ => trivial)
theorem marks_next {k n : Nat} (h : k < n) : ((List.replicate k true ++ List.replicate (n - k) false).map Value.bool).set k (.bool true) = (List.replicate (k + 1) true ++ List.replicate (n - (k + 1)) false).map Value.bool := by
  have e : n - k = (n - (k + 1)) + 1 := by omega
  rw [e, List.replicate_succ, List.map_append, List.map_cons, List.set_append_right _ _ (by simp), List.replicate_succ']
  simp

set_option maxHeartbeats 4000000 in
theorem all_walk (a0 : Option Addr) (n0 c0 : Nat) (L : List Dn) (at_ o : Int) (w : World) (r0 : Rg kDn 0 w.heap.size w a0 n0 c0 L) :
    Calls Try.prog 8 #[.slice a0 n0 c0, .int .i64 at_, .int .i64 o] w fun e w' => e = .returned (.bool true) ∧ Below w.heap.size w w' := by
  have R0 := Lib.hid r0
  have hs0 := r0.small'
  clear r0
  have CA := Lib.hid (alive5_any w)
  have CW : Hid (∀ w1, Below w.heap.size w w1 → Calls Try.prog 28 #[.slice a0 n0 c0] w1 fun e w' => e = .returned (.tuple #[.int .i64 (wcount (devs L) : Nat), .int .i64 (AK.dcode (devs L) : Nat)]) ∧ Below w1.heap.size w1 w') := fun w1 h => waits_any a0 n0 c0 L w1 (R0.out.here h)
  have CG : Hid (∀ w1, Below w.heap.size w w1 → Calls Try.prog 18 #[.slice a0 n0 c0] w1 (SomeB (n0 ≤ 30 ∧ ∀ D ∈ devs L, DK.great D = false) w1)) := fun w1 h => greatDs_any a0 n0 c0 L w1 (R0.out.here h)
  rcases Bool.eq_false_or_eq_true (AK.mays (devs L)) with hm | hm
  rotate_left
  · rw [dcode_no hm] at CW
    generalize wcount (devs L) = wc at *
    clear hm
    go_enter Try.func8, Try.ntmps8
    go_wp2_with fail
    refine CA.out.mono ?_
    rintro e w1 ⟨rfl, b1⟩
    have B1 := Lib.hid b1
    clear b1 CA
    go_wp2_with fail
    refine (CW.out _ B1.out).mono ?_
    rintro e w2 ⟨rfl, b2⟩
    have B2 := Lib.hid (thence B1.out b2 (Nat.le_refl _))
    clear b2 CW
    go_wp2_with fail
    refine (CG.out _ B2.out).mono ?_
    rintro e w3 ⟨gb, rfl, hg1, b3⟩
    have B3 := Lib.hid (thence B2.out b3 (Nat.le_refl _))
    clear b3 CG hg1
    cases gb with
    | true =>
      go_wp2_with fail
      go_ret
      exact ⟨rfl, B3.out⟩
    | false =>
      go_wp2_with fail
      go_ret
      exact ⟨rfl, B3.out⟩
  have HMY := Lib.hid hm
  have hmn : AK.many (devs L) ≤ 20000 := by
    have := many_small hm (devs L).length
    rw [List.take_length] at this
    have h2 := (AK.mays_iff.1 hm).2.1
    omega
  rw [dcode_yes hm, show wcount (devs L) = AK.many (devs L) by simp [wcount, hm]] at CW
  have CXA : Hid (∀ w1 ka, Below w.heap.size w w1 → Rg kBool 0 w1.heap.size w1 ka (AK.many (devs L)) (AK.many (devs L)) (List.replicate (AK.many (devs L)) true) → Calls Try.prog 13 #[.slice a0 n0 c0, .slice ka (AK.many (devs L)) (AK.many (devs L))] w1 (DsEnd w1 ((devs L).map DK.flushed) 0)) := fun w1 ka h hk => by
    have hc : AK.ccode (devs L) (List.replicate (AK.many (devs L)) true) = 0 := ccode_ok hm (by rw [List.length_replicate]; omega)
    have := crash_any a0 n0 c0 L ka _ _ _ w1 (R0.out.here h) hk
    rw [hc, crashed_is hc, cuts_all (Nat.le_refl _)] at this
    exact this
  have CXB : Hid (∀ w1, Below w.heap.size w w1 → Calls Try.prog 13 #[.slice a0 n0 c0, .slice none 0 0] w1 (DsEnd w1 ((devs L).map fun D => (⟨D.bs, [], D.dead⟩ : Dv)) 0)) := fun w1 h => by
    have hc : AK.ccode (devs L) [] = 0 := ccode_ok hm (by simp)
    have := crash_any a0 n0 c0 L none 0 0 [] w1 (R0.out.here h) (rg_nil _ _ _ _)
    rw [hc, crashed_is hc, cuts_nothing] at this
    exact this
  clear hm
  generalize AK.many (devs L) = q at *
  go_enter Try.func8, Try.ntmps8
  go_wp2_with fail
  refine CA.out.mono ?_
  rintro e w1 ⟨rfl, b1⟩
  have B1 := Lib.hid b1
  clear b1 CA
  go_wp2_with fail
  refine (CW.out _ B1.out).mono ?_
  rintro e w2 ⟨rfl, b2⟩
  have B2 := Lib.hid (thence B1.out b2 (Nat.le_refl _))
  clear b2 CW
  go_wp2_with fail
  refine (CG.out _ B2.out).mono ?_
  rintro e w3 ⟨gb, rfl, hg1, b3⟩
  have B3 := Lib.hid (thence B2.out b3 (Nat.le_refl _))
  clear b3 CG hg1 B1 B2
  cases gb with
  | true =>
    go_wp2_with fail
    go_ret
    exact ⟨rfl, B3.out⟩
  | false =>
  by_cases g1 : at_ < 0
  · go_wp2_with fail
    go_ret
    exact ⟨rfl, B3.out⟩
  obtain ⟨m, rfl⟩ := Int.eq_ofNat_of_zero_le (show 0 ≤ at_ by omega)
  by_cases g2 : n0 ≤ m
  · have i2 : (n0 : Int) ≤ (m : Int) := by omega
    clear g2
    go_wp2_with fail
    go_ret
    exact ⟨rfl, B3.out⟩
  have i2 : ¬ (n0 : Int) ≤ (m : Int) := by omega
  have i2' : (m : Int) < (n0 : Int) := by omega
  clear g1 g2
  have hmk := run_make_bools w3 q (by omega)
  obtain ⟨Z, HZ⟩ : ∃ Z, Hid (Z = (List.replicate q false).map Value.bool) := ⟨_, rfl⟩
  rw [← HZ.out] at hmk
  have bx := Bx.new w3 Z 4
  have al : Below w3.heap.size w3 (w3.alloc (.cells Z.toArray 4)) := (Below.refl _ _).alloc (Nat.le_refl _) _
  have BX := Lib.hid bx
  have AL := Lib.hid al
  clear bx al
  go_wp2_with fail
  generalize hW : w3.alloc (.cells Z.toArray 4) = W4 at *
  clear hmk hW
  have BX0 : Hid (Bx W4 w3.heap.size ((List.replicate 0 true ++ List.replicate (q - 0) false).map Value.bool)) := by have := BX.out; rw [HZ.out] at this; exact this
  clear BX
  go_loopw [11] (fun i wr => ∃ k : Nat, k ≤ q ∧ i = .int .i64 k ∧ Bx wr w3.heap.size ((List.replicate k true ++ List.replicate (q - k) false).map Value.bool) ∧ Below w3.heap.size w3 wr) (fun i _ => q - (intOf i).toNat)
  case atStart => exact ⟨0, Nat.zero_le _, rfl, BX0.out, AL.out⟩
  case round =>
    obtain ⟨k, hk, rfl, hbx, hbw⟩ := hrel
    have BM := Lib.hid hbx
    have WB := Lib.hid hbw
    have hlg := hbx.lt
    clear hbx hbw
    by_cases hlt : k < q
    · have hc : wr.cell? ⟨w3.heap.size, k, none⟩ = some (.bool false) := by
        rw [BM.out.cell]
        simp [List.getElem?_append, hlt, show 0 < q - k by omega]
      have hf := BM.out.frozen k
      have BN := BM.out.set k (.bool true)
      rw [marks_next hlt] at BN
      have BN := Lib.hid BN
      have WN : Hid (Below w3.heap.size w3 (wr.setCell ⟨w3.heap.size, k, none⟩ (.bool true))) := WB.out.setCell (Nat.le_refl _) _
      have HLT := Lib.hid hlt
      have ik : (k : Int) < (q : Int) := by omega
      clear hlt
      go_wp2_with fail
      go_roundw
      case rel => exact ⟨k + 1, HLT.out, by go_num, BN.out, WN.out⟩
      case measure => have := HLT.out; simp [intOf]; omega
    · obtain rfl : k = q := by omega
      have RK := marks_rg (L := List.replicate k true) (by have := BM.out; rwa [Nat.sub_self, List.replicate_zero, List.append_nil] at this) (by rw [List.length_replicate]; omega)
      rw [List.length_replicate] at RK
      have RK := Lib.hid RK
      have B4 := Lib.hid (thence B3.out WB.out (Nat.le_refl _))
      clear hlt BM WB
      go_wp2_with fail
      refine (CXA.out _ _ B4.out RK.out).mono ?_
      rintro e w5 ⟨v5, rfl, ⟨a5, n5, c5, P5, rfl, r5, d5, -⟩, b5⟩
      have B5 := Lib.hid (thence B4.out b5 (Nat.le_refl _))
      have R5 := Lib.hid (r5.mono (Nat.zero_le _) (Nat.le_refl _))
      have D5 := Lib.hid d5
      clear b5 r5 d5 CXA RK B4
      go_wp2_with fail
      refine (CXB.out _ B5.out).mono ?_
      rintro e w6 ⟨v6, rfl, ⟨a6, n6, c6, P6, rfl, r6, d6, -⟩, b6⟩
      have B6 := Lib.hid (thence B5.out b6 (Nat.le_refl _))
      have R5 := Lib.hid (R5.out.here b6)
      have R6 := Lib.hid (r6.mono (Nat.zero_le _) (Nat.le_refl _))
      have D6 := Lib.hid d6
      clear b6 r6 d6 CXB B5
      have hkL : m < L.length := by have := R0.out.long; omega
      have hn5 : n5 = n0 := by
        have h1 := R5.out.long; have h2 := devs_length P5; rw [D5.out, List.length_map, devs_length] at h2; have h3 := R0.out.long; omega
      have hn6 : n6 = n0 := by
        have h1 := R6.out.long; have h2 := devs_length P6; rw [D6.out, List.length_map, devs_length] at h2; have h3 := R0.out.long; omega
      have hkP5 : m < P5.length := by have := R5.out.long; omega
      have hkP6 : m < P6.length := by have := R6.out.long; omega
      have hkD : m < (devs L).length := by rw [devs_length]; exact hkL
      subst hn5
      obtain rfl : n5 = n6 := hn6.symm
      clear hn6
      obtain ⟨ab, off, xa, xn, xc, xa', xn', xc', D, e1, hbB, e2, dv⟩ := R0.out.dev m hkL
      subst e1
      have ED : (devs L).getD m Dv.nil = D := by rw [devs_getD, e2]
      have HMD : DK.may D = true := by
        have := (AK.mays_iff.1 HMY.out).2.2 _ (AK.mem_get (L := devs L) (d := Dv.nil) hkD)
        rw [ED] at this
        exact this
      have CXD : Hid (∀ w', Below w.heap.size w w' → w'.cell? ⟨ab, off + m * 3, none⟩ = some (.slice xa xn xc) ∧ w'.cell? ⟨ab, off + m * 3 + 1, none⟩ = some (.slice xa' xn' xc') ∧ w'.cell? ⟨ab, off + m * 3 + 2, none⟩ = some (.bool D.dead)) := fun w' h =>
        (R0.out.below h (Nat.le_refl _)).dcell hkL e2
      obtain ⟨a2b, off2, ya, yn, yc, ya', yn', yc', E, e1', hbB2, e2', dv2⟩ := R5.out.dev m hkP5
      subst e1'
      have EE : E = DK.flushed D := by
        have : (devs P5).getD m Dv.nil = E := by rw [devs_getD, e2']
        rw [← this, D5.out, map_at hkD, ED]
      have CXE : Hid (∀ w', Below w6.heap.size w6 w' → w'.cell? ⟨a2b, off2 + m * 3, none⟩ = some (.slice ya yn yc) ∧ w'.cell? ⟨a2b, off2 + m * 3 + 1, none⟩ = some (.slice ya' yn' yc') ∧ w'.cell? ⟨a2b, off2 + m * 3 + 2, none⟩ = some (.bool D.dead)) := fun w' h => by
        have := (R5.out.below h (Nat.le_refl _)).dcell hkP5 e2'
        rw [EE] at this
        exact this
      obtain ⟨a3b, off3, za, zn, zc, za', zn', zc', F, e1'', hbB3, e2'', dv3⟩ := R6.out.dev m hkP6
      subst e1''
      have EF : F = ⟨D.bs, [], D.dead⟩ := by
        have : (devs P6).getD m Dv.nil = F := by rw [devs_getD, e2'']
        rw [← this, D6.out, map_at hkD, ED]
      have CXF : Hid (∀ w', Below w6.heap.size w6 w' → w'.cell? ⟨a3b, off3 + m * 3, none⟩ = some (.slice za zn zc) ∧ w'.cell? ⟨a3b, off3 + m * 3 + 1, none⟩ = some (.slice za' zn' zc') ∧ w'.cell? ⟨a3b, off3 + m * 3 + 2, none⟩ = some (.bool D.dead)) := fun w' h => by
        have := (R6.out.below h (Nat.le_refl _)).dcell hkP6 e2''
        rw [EF] at this
        exact this
      have C1 : Hid (∀ w', Below w.heap.size w w' → Calls Try.prog 33 #[.agg #[.slice xa xn xc, .slice xa' xn' xc', .bool D.dead], .int .i64 o] w' (TheTx w' (rtext D o) (DK.rcode D o))) := fun w' h =>
        read_tx xa xn xc xa' xn' xc' D o w' (dv.at.here h)
      have C3 : Hid (∀ w', Below w.heap.size w w' → Calls Try.prog 31 #[.agg #[.slice xa xn xc, .slice xa' xn' xc', .bool D.dead], .int .i64 o] w' (TheTx w' (ltext D o) (DK.rcode D o))) := fun w' h =>
        lasting_tx xa xn xc xa' xn' xc' D o w' (dv.at.here h)
      have C2 : Hid (∀ w', Below w6.heap.size w6 w' → Calls Try.prog 31 #[.agg #[.slice ya yn yc, .slice ya' yn' yc', .bool D.dead], .int .i64 o] w' (TheTx w' (rtext D o) (DK.rcode D o))) := fun w' h => by
        have := lasting_tx ya yn yc ya' yn' yc' E o w' (dv2.at.here h)
        rw [EE, (all_math HMD o).1, (all_math HMD o).2] at this
        exact this
      have C4 : Hid (∀ w', Below w6.heap.size w6 w' → Calls Try.prog 31 #[.agg #[.slice za zn zc, .slice za' zn' zc', .bool D.dead], .int .i64 o] w' (TheTx w' (ltext D o) (DK.rcode D o))) := fun w' h => by
        have := lasting_tx za zn zc za' zn' zc' F o w' (dv3.at.here h)
        rw [EF, (nothing_math HMD o).1, (nothing_math HMD o).2] at this
        exact this
      clear EE EF ED e2 e2' e2'' dv dv2 dv3 HMD hkL hkP5 hkP6 hkD
      generalize rtext D o = X at *
      generalize ltext D o = Y at *
      generalize DK.rcode D o = cc at *
      generalize D.dead = dd at *
      obtain ⟨s0, s1, s2⟩ := CXD.out _ B6.out
      go_wp2_with fail
      refine (C1.out _ B6.out).mono ?_
      rintro e w7 ⟨ta, tn, tc, rfl, it7, b7⟩
      have B7 := Lib.hid b7
      have IT7 := Lib.hid it7
      clear it7 b7 s0 s1 s2
      obtain ⟨s0, s1, s2⟩ := CXE.out _ B7.out
      go_wp2_with fail
      refine (C2.out _ B7.out).mono ?_
      rintro e w8 ⟨ua, un, uc, rfl, it8, b8⟩
      have B8 := Lib.hid (thence B7.out b8 (Nat.le_refl _))
      have IT7 := Lib.hid (IT7.out.here b8)
      have IT8 := Lib.hid it8
      clear it8 b8 s0 s1 s2 B7
      obtain ⟨s0, s1, s2⟩ := CXD.out _ (thence B6.out B8.out (Nat.le_refl _))
      go_wp2_with fail
      refine (C3.out _ (thence B6.out B8.out (Nat.le_refl _))).mono ?_
      rintro e w9 ⟨va, vn, vc, rfl, it9, b9⟩
      have B9 := Lib.hid (thence B8.out b9 (Nat.le_refl _))
      have IT7 := Lib.hid (IT7.out.here b9)
      have IT8 := Lib.hid (IT8.out.here b9)
      have IT9 := Lib.hid it9
      clear it9 b9 s0 s1 s2 B8
      obtain ⟨s0, s1, s2⟩ := CXF.out _ B9.out
      go_wp2_with fail
      refine (C4.out _ B9.out).mono ?_
      rintro e w10 ⟨qa, qn, qc, rfl, it10, b10⟩
      have B10 := Lib.hid (thence B9.out b10 (Nat.le_refl _))
      have T7 := text_is _ _ _ _ _ (IT7.out.here b10).rd
      have T8 := text_is _ _ _ _ _ (IT8.out.here b10).rd
      have T9 := text_is _ _ _ _ _ (IT9.out.here b10).rd
      have T10 := text_is _ _ _ _ _ it10.rd
      clear it10 b10 s0 s1 s2 B9
      go_wp2_with fail
      go_ret
      exact ⟨rfl, thence B6.out B10.out (Nat.le_refl _)⟩
end Go.Proofs.Ytnhfkfihlkbkfaa.PW
