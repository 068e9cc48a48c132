/-
  The walk of FoldBack: each block is the fold of all others and the fold of all.
-/
import Derived.Test.YticojepedpionaaFoldTwo
namespace Go.Proofs.Yticojepedpionaa.PW
open Go.RowKit
set_option linter.unusedVariables false

theorem at_q (a : Option Addr) (len cap : Nat) (l : List Nat) (i : Nat) (w : World) {B : Nat} (hr : Rd B w a len cap l) :
    Calls Try.prog 17 #[.slice a len cap, .int .i64 i] w fun e w' => e = .returned (.int .u8 (l.getD i 0 : Nat)) ∧ w' = w := by
  obtain ⟨rfl, hf, hm, hby, hn, hc⟩ := hr
  unfold maxLen at hm
  by_cases hi : i < l.length
  · obtain ⟨b, off, rfl, hB, hcc⟩ := hc (by intro e; subst e; simp at hi)
    have h1 := hcc i hi
    generalize l.getD i 0 = x at *
    have hd : decide (l.length ≤ i) = false := by simp; omega
    clear hcc hc hn
    go_enter Try.func17, Try.ntmps17
    go_wp2
    go_ret
    exact ⟨rfl, rfl⟩
  · have h1 : l.getD i 0 = 0 := by simp [List.getD, List.getElem?_eq_none (show l.length ≤ i by omega)]
    have H1 := Lib.hid h1
    clear h1 hc hn
    go_enter Try.func17, Try.ntmps17
    go_wp2
    go_ret
    exact ⟨by rw [H1.out]; rfl, rfl⟩

/-- The blocks but one, of the first k. -/
def buts (H : List Hd) (p : Nat) : Nat → List Hd
  | 0 => []
  | k + 1 => if k = p then buts H p k else buts H p k ++ [H.getD k Hd.nil]
theorem buts_eq (H : List Hd) (p : Nat) (k : Nat) (hk : k ≤ H.length) : buts H p k = if k ≤ p then H.take k else H.take p ++ (H.take k).drop (p + 1) := by
  induction k with
  | zero => simp [buts]
  | succ k ih =>
    have e : H.take (k + 1) = H.take k ++ [H.getD k Hd.nil] := by
      rw [List.take_add_one, List.getElem?_eq_getElem (by omega)]
      simp [List.getD, show k < H.length by omega]
    unfold buts
    rw [ih (by omega)]
    by_cases h : k = p
    · subst h
      rw [if_pos rfl, if_pos (Nat.le_refl _), if_neg (by omega), List.drop_of_length_le (by rw [List.length_take]; omega), List.append_nil]
    · rw [if_neg h]
      by_cases h2 : k ≤ p
      · rw [if_pos h2, if_pos (by omega), e]
      · rw [if_neg h2, if_neg (by omega), e, List.drop_append_of_le_length (by rw [List.length_take]; omega), List.append_assoc]
theorem buts_all (H : List Hd) (p : Nat) (hp : p < H.length) : lists (buts H p H.length) = (lists H).take p ++ (lists H).drop (p + 1) := by
  rw [buts_eq H p _ (Nat.le_refl _), if_neg (by omega), List.take_length, lists_append, lists_take, lists_drop]
theorem buts_mem (H : List Hd) (p k : Nat) (hk : k ≤ H.length) : ∀ z ∈ buts H p k, z ∈ H := by
  intro z hz
  rw [buts_eq H p k hk] at hz
  split at hz
  · exact List.mem_of_mem_take hz
  · rcases List.mem_append.1 hz with h | h
    · exact List.mem_of_mem_take h
    · exact List.mem_of_mem_take (List.mem_of_mem_drop h)
theorem buts_length (H : List Hd) (p k : Nat) : (buts H p k).length ≤ k := by
  induction k with
  | zero => simp [buts]
  | succ k ih =>
    unfold buts
    split
    · omega
    · rw [List.length_append]; simp; omega

set_option maxRecDepth 100000 in
set_option maxHeartbeats 4000000 in
theorem back_main (a : Option Addr) (cap : Nat) (H : List Hd) (p : Nat) (w : World) (hr : Rds w.heap.size w a H.length cap H) (h1 : big (lists H) = false) (hp : p < H.length) (h0 : FO.code (lists H) = 0) :
    Calls Try.prog 5 #[.slice a H.length cap, .int .i64 p] w fun e w' => e = .returned (.bool true) ∧ Below w.heap.size w w' := by
  have AL := Lib.hid alive_any
  have hl1 := (big_no h1).1
  rw [lists_length] at hl1
  have GA := Lib.hid (fun (w' : World) (hr : Rds w.heap.size w' a H.length cap H) => great_any a H.length cap H w' hr)
  rw [h1] at GA
  have CA := Lib.hid (fun (w' : World) (hr : Rds w'.heap.size w' a H.length cap H) => fold_good a H.length cap H w' hr h0)
  obtain ⟨b, off, xa, xl, xc, xv, rfl, hB, hX, cx, rx⟩ := hr.at p hp
  have hxv : (lists H).getD p [] = xv := by rw [lists_getD, hX]
  have FL1 := Lib.hid (FO.fold_length (lists H))
  have FB1 : Hid (Bytes (FO.fold (lists H))) := FO.fold_bytes hr.bytes
  have hba := buts_all H p hp
  have hcode := FO.code_but (lists H) p (by rw [lists_length]; exact hp) h0
  have hget := fun i hi => FO.fold_but (lists H) p (by rw [lists_length]; exact hp) i hi
  rw [hxv] at hget
  have CG := Lib.hid (fun ga a' cap' (w' : World) (hr : Rds w'.heap.size w' a' (buts H p H.length ++ [Hd.blk ga (FO.fold (lists H))]).length cap' (buts H p H.length ++ [Hd.blk ga (FO.fold (lists H))])) => (by
    have e : lists (buts H p H.length ++ [Hd.blk ga (FO.fold (lists H))]) = (lists H).take p ++ (lists H).drop (p + 1) ++ [FO.fold (lists H)] := by rw [lists_append, hba]; rfl
    have h := fold_good a' _ cap' _ w' hr (by rw [e]; exact hcode)
    rw [e] at h
    exact h :
    Calls Try.prog 10 #[.slice a' (buts H p H.length ++ [Hd.blk ga (FO.fold (lists H))]).length cap'] w' (NewBlk w' (FO.fold ((lists H).take p ++ (lists H).drop (p + 1) ++ [FO.fold (lists H)])))))
  have FL2 := Lib.hid (FO.fold_length ((lists H).take p ++ (lists H).drop (p + 1) ++ [FO.fold (lists H)]))
  have FG := Lib.hid hget
  have Rx := Lib.hid rx
  have Hr := Lib.hid hr
  unfold NewBlk at CA CG
  clear hr h1 h0 hxv hX hba hcode hget rx
  generalize FO.fold ((lists H).take p ++ (lists H).drop (p + 1) ++ [FO.fold (lists H)]) = fb at *
  generalize FO.fold (lists H) = fa at *
  generalize hn : H.length = m at *
  have Hn := Lib.hid hn
  clear hn
  go_enter Try.func5, Try.ntmps5
  go_wp2_with fail
  refine (AL.out _).mono ?_
  rintro e w1 ⟨rfl, hb1⟩
  go_wp2_with fail
  refine (GA.out _ (Hr.out.below hb1)).mono ?_
  rintro e w2 ⟨rfl, rfl⟩
  go_wp2_with fail
  refine (CA.out _ (Hr.out.here hb1)).mono ?_
  rintro e w3 ⟨ga, rfl, hga, bA, hb3⟩
  have K3 := Lib.hid (thence hb1 hb3 (Nat.le_refl _))
  have PA := Lib.hid bA
  clear hb1 hb3 bA hga AL GA CA
  go_wp2_with fail
  go_loopw [8, 9] (fun v j wr => ∃ k : Nat, k ≤ m ∧ j = .int .i64 k ∧ OwnS wr w3.heap.size v (buts H p k) ∧ Below w3.heap.size w3 wr) (fun _ j _ => m - (intOf j).toNat)
  case atStart => exact ⟨0, by omega, rfl, owns_nil _ _, Below.refl _ _⟩
  case round =>
    obtain ⟨k, hk, rfl, o, kb⟩ := hrel
    by_cases hlt : k < m
    · by_cases hkp : k = p
      · have o' : OwnS wr w3.heap.size u8 (buts H p (k + 1)) := by unfold buts; rw [if_pos hkp]; exact o
        have O := Lib.hid o'
        have KB := Lib.hid kb
        have Hk := Lib.hid hlt
        subst hkp
        clear o o' kb
        go_wp2
        go_roundw
        case rel => exact ⟨k + 1, by have := Hk.out; omega, by go_num, O.out, KB.out⟩
        case measure => have := Hk.out; simp [intOf]; omega
      · have kw := thence K3.out kb (Nat.le_refl _)
        obtain ⟨b', off', ya, yl, yc, yv, ha', _, hY, cy, ry⟩ := Hr.out.at k (by rw [Hn.out]; exact hlt)
        injection ha' with ha'
        injection ha' with hb1 hb2
        subst hb1 hb2
        have f1 : wr.cell? ⟨b, off + k, none⟩ = some (.slice ya yl yc) := by rw [kw.cell (p := ⟨b, off + k, none⟩) hB]; exact cy
        have hlit := rds_lit wr _ [⟨ya, yl, yc, yv⟩] #[.slice ya yl yc] 1 1 (0, 0) rfl rfl rfl rfl (by unfold maxLen; simp) (by
          intro h hh
          obtain rfl := List.mem_singleton.1 hh
          exact (ry.below kw).mono kw.size)
        have hlen := buts_length H p k
        obtain ⟨v5, w5, r5, o5, b5⟩ := append_next w3 (wr.alloc _) u8 _ (o.alloc _) (kb.alloc kb.size _) _ 1 1 _ hlit (by simp; omega)
        have o' : OwnS w5 w3.heap.size v5 (buts H p (k + 1)) := by
          unfold buts; rw [if_neg hkp, hY]; exact o5
        have d1 : ((k : Int) != (p : Int)) = true := by rw [bne_iff_ne]; omega
        have d2 : (k != p) = true := by rw [bne_iff_ne]; omega
        have O := Lib.hid o'
        have KB := Lib.hid b5
        have R5 := Lib.hid r5
        clear o o' kb kw hlit o5 r5 b5 hY cy ry hlen
        go_wp2_with (first | (at_builtin; refine wpList_append_run rfl _ _ _ _ rfl R5.out ?_) | fail)
        go_roundw
        case rel => exact ⟨k + 1, by omega, by go_num, O.out, KB.out⟩
        case measure => simp [intOf]; omega
    · obtain rfl : k = m := by omega
      have kw := thence K3.out kb (Nat.le_refl _)
      have rr := Hr.out.here kw
      have pa := PA.out.below kb PA.out.lt
      have rha := pa.hd FL1.out FB1.out
      have hlit := rds_lit wr _ [Hd.blk ga fa] #[.slice (some ⟨ga, 0, none⟩) 128 128] 1 1 (0, 0) rfl rfl rfl rfl (by unfold maxLen; simp) (by
        intro h hh
        obtain rfl := List.mem_singleton.1 hh
        exact rha)
      have hlen := buts_length H p k
      obtain ⟨v5, w5, r5, o5, b5⟩ := append_next w3 (wr.alloc _) u8 _ (o.alloc _) (kb.alloc kb.size _) _ 1 1 _ hlit (by simp; omega)
      obtain ⟨a5, cap5, rfl, r6⟩ := o5.rds (fun z hz => by
        have k5 := thence K3.out b5 (Nat.le_refl _)
        rcases List.mem_append.1 hz with h | h
        · exact (((Hr.out.each z (buts_mem H p k (by rw [Hn.out]; exact Nat.le_refl _) z h)).below k5).mono k5.size)
        · obtain rfl := List.mem_singleton.1 h
          exact (PA.out.below b5 PA.out.lt).hd FL1.out FB1.out)
      have K5 := Lib.hid (thence K3.out b5 (Nat.le_refl _))
      have cg := CG.out ga a5 cap5 w5 r6
      have CGG := Lib.hid cg
      generalize (buts H p k ++ [Hd.blk ga fa]).length = q at *
      have R5 := Lib.hid r5
      clear o kb kw rr pa rha hlit hlen r5 o5 b5 r6 cg CG K3 PA
      go_wp2_with (first | (at_builtin; refine wpList_append_run rfl _ _ _ _ rfl R5.out ?_) | fail)
      refine CGG.out.mono ?_
      rintro e w6 ⟨gb, rfl, hgb, bB, hb6⟩
      have K6 := Lib.hid (thence K5.out hb6 (Nat.le_refl _))
      have PB := Lib.hid bB
      have hgbl := bB.lt
      clear hb6 bB K5 CGG R5 hgb
      go_wp2_with fail
      go_loopw [12] (fun j wr => ∃ k : Nat, k ≤ 128 ∧ j = .int .i64 k ∧ Below w.heap.size w wr ∧ Below w6.heap.size w6 wr) (fun j _ => 128 - (intOf j).toNat)
      case atStart => exact ⟨0, by omega, rfl, K6.out, Below.refl _ _⟩
      case round =>
        obtain ⟨i, hi, rfl, kb, k6⟩ := hrel
        by_cases hlt : i < 128
        · have c1 := (PB.out.below k6 hgbl).cell i (by rw [FL2.out]; exact hlt)
          rw [FG.out i hlt] at c1
          have c2 : wr.cell? ⟨b, off + p, none⟩ = some (.slice xa xl xc) := by rw [kb.cell (p := ⟨b, off + p, none⟩) hB]; exact cx
          have rl := Rx.out.below kb
          have hat := fun nq => Calls.quiet_of_same (n := nq) (at_q xa xl xc xv i (wr.drewN nq) (rl.drewN nq))
          have Hat := Lib.hid hat
          clear hat rl
          go_wp2
          go_quiet (exact Hat.out _)
          go_wp2
          go_roundw
          case rel => exact ⟨i + 1, by omega, by go_num, below_drewN kb _, below_drewN k6 _⟩
          case measure => simp [intOf]; omega
        · obtain rfl : i = 128 := by omega
          go_wp2
          go_ret
          exact ⟨rfl, kb⟩

set_option maxRecDepth 100000 in
set_option maxHeartbeats 2000000 in
theorem back_out (a : Option Addr) (cap : Nat) (H : List Hd) (p : Int) (w : World) (hr : Rds w.heap.size w a H.length cap H) (h : big (lists H) = true ∨ (big (lists H) = false ∧ (p < 0 ∨ (0 ≤ p ∧ (H.length : Int) ≤ p)))) :
    Calls Try.prog 5 #[.slice a H.length cap, .int .i64 p] w fun e w' => e = .returned (.bool true) ∧ Below w.heap.size w w' := by
  have AL := Lib.hid alive_any
  have GA := Lib.hid (fun (w' : World) (hr : Rds w.heap.size w' a H.length cap H) => great_any a H.length cap H w' hr)
  have Hr := Lib.hid hr
  have hr1 := hr.small
  have hr2 := hr.fits
  unfold maxLen at hr1
  clear hr
  generalize H.length = m at *
  rcases h with h | ⟨h, h2 | ⟨h2, h3⟩⟩
  all_goals
    rw [h] at GA
    clear h
    go_enter Try.func5, Try.ntmps5
    go_wp2_with fail
    refine (AL.out _).mono ?_
    rintro e w1 ⟨rfl, hb1⟩
    go_wp2_with fail
    refine (GA.out _ (Hr.out.below hb1)).mono ?_
    rintro e w2 ⟨rfl, rfl⟩
    go_wp2
    go_ret
    exact ⟨rfl, hb1⟩

set_option maxRecDepth 100000 in
set_option maxHeartbeats 2000000 in
theorem back_bad (a : Option Addr) (cap : Nat) (H : List Hd) (p : Nat) (w : World) (hr : Rds w.heap.size w a H.length cap H) (h1 : big (lists H) = false) (hp : p < H.length) (h0 : FO.code (lists H) ≠ 0) :
    Calls Try.prog 5 #[.slice a H.length cap, .int .i64 p] w fun e w' => e = .returned (.bool true) ∧ Below w.heap.size w w' := by
  have AL := Lib.hid alive_any
  have hl1 := (big_no h1).1
  rw [lists_length] at hl1
  have GA := Lib.hid (fun (w' : World) (hr : Rds w.heap.size w' a H.length cap H) => great_any a H.length cap H w' hr)
  rw [h1] at GA
  have CA := Lib.hid (fun (w' : World) (hr : Rds w'.heap.size w' a H.length cap H) => fold_bad a H.length cap H _ w' hr rfl h0)
  have e1 : ((FO.code (lists H) : Int) != 0) = true := by rw [bne_iff_ne]; omega
  have Hr := Lib.hid hr
  clear hr h1 h0
  generalize FO.code (lists H) = c at *
  generalize H.length = m at *
  go_enter Try.func5, Try.ntmps5
  go_wp2_with fail
  refine (AL.out _).mono ?_
  rintro e w1 ⟨rfl, hb1⟩
  go_wp2_with fail
  refine (GA.out _ (Hr.out.below hb1)).mono ?_
  rintro e w2 ⟨rfl, rfl⟩
  go_wp2_with fail
  refine (CA.out _ (Hr.out.here hb1)).mono ?_
  rintro e w3 ⟨rfl, hb3⟩
  go_wp2
  go_ret
  exact ⟨rfl, thence hb1 hb3 (Nat.le_refl _)⟩

theorem back_walk (a : Option Addr) (len cap : Nat) (H : List Hd) (p : Int) (w : World) (hr : Rds w.heap.size w a len cap H) :
    Calls Try.prog 5 #[.slice a len cap, .int .i64 p] w fun e w' => e = .returned (.bool true) ∧ Below w.heap.size w w' := by
  obtain rfl := hr.long
  rcases Bool.eq_false_or_eq_true (big (lists H)) with h1 | h1
  · exact back_out a cap H p w hr (.inl h1)
  · by_cases h : 0 ≤ p ∧ p < (H.length : Int)
    · obtain ⟨p', rfl⟩ := Int.eq_ofNat_of_zero_le h.1
      by_cases h0 : FO.code (lists H) = 0
      · exact back_main a cap H p' w hr h1 (by omega) h0
      · exact back_bad a cap H p' w hr h1 (by omega) h0
    · exact back_out a cap H p w hr (.inr ⟨h1, by omega⟩)
end Go.Proofs.Yticojepedpionaa.PW
