/-
  The walks of FoldOrder, FoldParts, FoldTwice.
-/
import Derived.Test.YticojepedpionaaFoldLaws
namespace Go.Proofs.Yticojepedpionaa.PW
open Go.RowKit
set_option linter.unusedVariables false


/-- What a call answers, whatever it is: its code, and some slice. -/
def Answer (L : List (List Nat)) (w : World) (e : Ending) (w' : World) : Prop :=
  ∃ a len cap l, e = .returned (.tuple #[.slice a len cap, .int .i64 (FO.code L : Nat)]) ∧ Rd w'.heap.size w' a len cap l ∧ Below w.heap.size w w' ∧ (FO.code L ≠ 0 → l = []) ∧ (FO.code L = 0 → l = FO.fold L)
theorem fold_answer (a : Option Addr) (len cap : Nat) (H : List Hd) (w : World) (hr : Rds w.heap.size w a len cap H) :
    Calls Try.prog 10 #[.slice a len cap] w (Answer (lists H) w) := by
  have hb : Bytes (FO.fold (lists H)) := FO.fold_bytes hr.bytes
  refine (fold_any a len cap H w hr).mono ?_
  rintro e w1 (⟨h0, g, rfl, hg, hblk, hb1⟩ | ⟨h0, rfl, hb1⟩)
  · exact ⟨_, _, _, _, by rw [h0]; rfl, hblk.rd (FO.fold_length _) hb, hb1, fun h => absurd h0 h, fun _ => rfl⟩
  · exact ⟨none, 0, 0, [], rfl, rd_nil _ _, hb1, fun _ => rfl, fun h => absurd h h0⟩

theorem code_sum (A B : List (List Nat)) : (FO.code (A ++ B) = 4 ∧ 16 < A.length + B.length) ∨ FO.code (A ++ B) = 3 ∨ (FO.code (A ++ B) = 0 ∧ FO.code A = 0 ∧ FO.code B = 0) := by
  rcases FO.code_cases (A ++ B) with ⟨h, h1⟩ | ⟨h, _⟩ | ⟨h, h1, h2⟩
  · rw [List.length_append] at h1; exact .inl ⟨h, h1⟩
  · exact .inr (.inl h)
  · rw [List.length_append] at h1
    rw [FO.good_append, Bool.and_eq_true] at h2
    exact .inr (.inr ⟨h, FO.code_ok (by omega) h2.1, FO.code_ok (by omega) h2.2⟩)

set_option maxRecDepth 100000 in
set_option maxHeartbeats 2000000 in
theorem parts_bad (a : Option Addr) (cap : Nat) (H : List Hd) (b : Option Addr) (capb : Nat) (K : List Hd) (w : World) (hr : Rds w.heap.size w a H.length cap H) (hq : Rds w.heap.size w b K.length capb K)
    (h1 : big (lists H) = false) (h2 : big (lists K) = false) (hne : ¬ (FO.code (lists H) = 0 ∧ FO.code (lists K) = 0 ∧ FO.code (lists (H ++ K)) = 0)) :
    Calls Try.prog 7 #[.slice a H.length cap, .slice b K.length capb] w fun e w' => e = .returned (.bool true) ∧ Below w.heap.size w w' := by
  have AL := Lib.hid alive_any
  have hs := code_sum (lists H) (lists K)
  rw [lists_length, lists_length, ← lists_append] at hs
  have hl1 := (big_no h1).1
  have hl2 := (big_no h2).1
  rw [lists_length] at hl1 hl2
  have GA := Lib.hid (fun (w' : World) (hr : Rds w.heap.size w' a H.length cap H) => great_any a H.length cap H w' hr)
  have GB := Lib.hid (fun (w' : World) (hr : Rds w.heap.size w' b K.length capb K) => great_any b K.length capb K w' hr)
  rw [h1] at GA
  rw [h2] at GB
  have CA := Lib.hid (fun (w' : World) (hr : Rds w'.heap.size w' a H.length cap H) => fold_answer a H.length cap H w' hr)
  have CB := Lib.hid (fun (w' : World) (hr : Rds w'.heap.size w' b K.length capb K) => fold_answer b K.length capb K w' hr)
  have CG := Lib.hid (fun a' cap' (w' : World) (hr : Rds w'.heap.size w' a' (H ++ K).length cap' (H ++ K)) => fold_answer a' _ cap' _ w' hr)
  have Hr := Lib.hid hr
  have Hq := Lib.hid hq
  unfold Answer at CA CB CG
  clear hr hq h1 h2
  generalize FO.code (lists H) = ca at *
  generalize FO.code (lists K) = cb at *
  obtain ⟨G, HGG⟩ : ∃ G, Hid (H ++ K = G) := ⟨_, rfl⟩
  rw [HGG.out] at CG hs hne
  generalize FO.code (lists G) = cg at *
  have hg : ((cg = 4 ∧ 16 < H.length + K.length) ∨ cg = 3) ∧ (ca ≠ 0 ∨ (ca = 0 ∧ cb ≠ 0) ∨ (ca = 0 ∧ cb = 0)) := by omega
  clear hs hne
  generalize hn : H.length = n at *
  generalize hm : K.length = m at *
  have Hn := Lib.hid hn
  have Hm := Lib.hid hm
  clear hn hm
  have hwr : IntKind.i64.wrap ((n : Int) + (m : Int)) = (n : Int) + (m : Int) := IntWalk.i64_in _ (by omega)
  obtain ⟨hg, hc⟩ := hg
  have h16 : 16 < n + m ∨ n + m ≤ 16 := by omega
  have HG : Hid ((cg = 4 ∧ 16 < n + m) ∨ cg = 3) := hg
  have e1 : ((ca : Int) != 0) = true ∨ ((ca : Int) != 0) = false ∧ ((cb : Int) != 0) = true ∨ ((ca : Int) != 0) = false ∧ ((cb : Int) != 0) = false := by
    rcases hc with h | ⟨h, k⟩ | ⟨h, k⟩
    · exact .inl (by rw [bne_iff_ne]; omega)
    · exact .inr (.inl ⟨by subst h; rfl, by rw [bne_iff_ne]; omega⟩)
    · exact .inr (.inr ⟨by subst h; rfl, by subst k; rfl⟩)
  have e3 : (((cg : Int) != 0) = true ∧ ((cg : Int) == 3) = true) ∨ (((cg : Int) != 0) = true ∧ decide ((16 : Int) < (n : Int) + (m : Int)) = true) := by
    rcases hg with ⟨h, k⟩ | h
    · exact .inr ⟨by subst h; rfl, by simp; omega⟩
    · exact .inl ⟨by subst h; rfl, by subst h; rfl⟩
  have e4 : decide ((16 : Int) < (n : Int) + (m : Int)) = true ∨ decide ((16 : Int) < (n : Int) + (m : Int)) = false := by
    cases decide ((16 : Int) < (n : Int) + (m : Int)) <;> simp
  clear hg hc h16 HG
  have E1 := Lib.hid e1
  have E3 := Lib.hid e3
  have E4 := Lib.hid e4
  clear e1 e3 e4
  go_enter Try.func7, Try.ntmps7
  go_wp2_with fail
  refine (AL.out _).mono ?_
  rintro e w1 ⟨rfl, hb1⟩
  go_wp2_with fail
  refine (GA.out _ (Hr.out.below hb1)).mono ?_
  rintro e w2 ⟨rfl, rfl⟩
  go_wp2_with fail
  refine (GB.out _ (Hq.out.below hb1)).mono ?_
  rintro e w2 ⟨rfl, rfl⟩
  go_wp2_with fail
  refine (CA.out _ (Hr.out.here hb1)).mono ?_
  rintro e w2 ⟨xa, xl, xc, xL, rfl, rx, hb2, _⟩
  have k2 := thence hb1 hb2 (Nat.le_refl _)
  clear hb1 hb2
  go_wp2_with fail
  refine (CB.out _ (Hq.out.here k2)).mono ?_
  rintro e w3 ⟨ya, yl, yc, yL, rfl, ry, hb3, _⟩
  have k3 := thence k2 hb3 (Nat.le_refl _)
  have rr := Hr.out.here k3
  have rq := Hq.out.here k3
  clear k2 hb3 rx ry
  obtain ⟨v4, w4, r4, o4, b4⟩ := append_first w3 a n cap H rr (by rw [Hn.out]; omega)
  obtain ⟨v5, w5, r5, o5, b5⟩ := append_next w3 w4 v4 H o4 b4 b m capb K (rq.below b4) (by rw [Hn.out, Hm.out]; omega)
  rw [HGG.out] at o5
  obtain ⟨a5, cap5, rfl, r6⟩ := o5.rds (fun x hx => by
    rw [← HGG.out] at hx
    rcases List.mem_append.1 hx with h | h
    · exact ((rr.each x h).below b5).mono b5.size
    · exact ((rq.each x h).below b5).mono b5.size)
  have k5 := thence k3 b5 (Nat.le_refl _)
  have R4 := Lib.hid r4
  have R5 := Lib.hid r5
  have R6 := Lib.hid r6
  clear r4 r5 r6 o4 o5 b4 b5 k3 rr rq
  go_wp2_with (first | (at_builtin; refine wpList_append_run rfl _ _ _ _ rfl R4.out ?_) | (at_builtin; refine wpList_append_run rfl _ _ _ _ rfl R5.out ?_) | fail)
  refine (CG.out _ _ _ R6.out).mono ?_
  rintro e w6 ⟨za, zl, zc, zL, rfl, rz, hb6, _⟩
  clear R4 R5 R6 rz CA CB CG GA GB AL Hr Hq HGG
  have k6 := Lib.hid (thence k5 hb6 (Nat.le_refl _))
  clear k5 hb6
  rcases E4.out with e4 | e4
  all_goals rcases E3.out with ⟨e3, e5⟩ | ⟨e3, e5⟩
  all_goals first
    | (exfalso; rw [e4] at e5; cases e5; done)
    | skip
  all_goals rcases E1.out with e1 | ⟨e1, e2⟩ | ⟨e1, e2⟩
  all_goals
    go_wp2
    go_ret
    exact ⟨rfl, k6.out⟩

set_option maxRecDepth 100000 in
set_option maxHeartbeats 2000000 in
theorem parts_good (a : Option Addr) (cap : Nat) (H : List Hd) (b : Option Addr) (capb : Nat) (K : List Hd) (w : World) (hr : Rds w.heap.size w a H.length cap H) (hq : Rds w.heap.size w b K.length capb K)
    (h1 : big (lists H) = false) (h2 : big (lists K) = false) (c1 : FO.code (lists H) = 0) (c2 : FO.code (lists K) = 0) (c3 : FO.code (lists (H ++ K)) = 0) :
    Calls Try.prog 7 #[.slice a H.length cap, .slice b K.length capb] w fun e w' => e = .returned (.bool true) ∧ Below w.heap.size w w' := by
  have AL := Lib.hid alive_any
  have hl1 := (big_no h1).1
  have hl2 := (big_no h2).1
  rw [lists_length] at hl1 hl2
  have GA := Lib.hid (fun (w' : World) (hr : Rds w.heap.size w' a H.length cap H) => great_any a H.length cap H w' hr)
  have GB := Lib.hid (fun (w' : World) (hr : Rds w.heap.size w' b K.length capb K) => great_any b K.length capb K w' hr)
  rw [h1] at GA
  rw [h2] at GB
  have CA := Lib.hid (fun (w' : World) (hr : Rds w'.heap.size w' a H.length cap H) => fold_good a H.length cap H w' hr c1)
  have CB := Lib.hid (fun (w' : World) (hr : Rds w'.heap.size w' b K.length capb K) => fold_good b K.length capb K w' hr c2)
  have CG := Lib.hid (fun a' cap' (w' : World) (hr : Rds w'.heap.size w' a' (H ++ K).length cap' (H ++ K)) => fold_good a' _ cap' _ w' hr c3)
  have Hr := Lib.hid hr
  have Hq := Lib.hid hq
  have FB1 : Hid (Bytes (FO.fold (lists H))) := FO.fold_bytes hr.bytes
  have FB2 : Hid (Bytes (FO.fold (lists K))) := FO.fold_bytes hq.bytes
  have FB3 : Hid (Bytes (FO.fold (lists (H ++ K)))) := FO.fold_bytes (by rw [lists_append]; exact FO.bytes_append hr.bytes hq.bytes)
  have FL1 := Lib.hid (FO.fold_length (lists H))
  have FL2 := Lib.hid (FO.fold_length (lists K))
  have FL3 := Lib.hid (FO.fold_length (lists (H ++ K)))
  have FF : Hid (FO.fold [FO.fold (lists H), FO.fold (lists K)] = FO.fold (lists (H ++ K))) := by show _ = _; rw [FO.fold_fold, lists_append]
  have FC : Hid (FO.code [FO.fold (lists H), FO.fold (lists K)] = 0) := FO.code_ok (by simp) (by rw [FO.good_iff]; intro l hl; simp at hl; rcases hl with rfl | rfl <;> exact .inr (FO.fold_length _))
  unfold NewBlk at CA CB CG
  clear hr hq h1 h2 c1 c2 c3
  obtain ⟨G, HGG⟩ : ∃ G, Hid (H ++ K = G) := ⟨_, rfl⟩
  rw [HGG.out] at CG FB3 FL3 FF
  generalize FO.fold (lists H) = lx at *
  generalize FO.fold (lists K) = ly at *
  generalize FO.fold (lists G) = lz at *
  generalize hn : H.length = n at *
  generalize hm : K.length = m at *
  have Hn := Lib.hid hn
  have Hm := Lib.hid hm
  clear hn hm
  go_enter Try.func7, Try.ntmps7
  go_wp2_with fail
  refine (AL.out _).mono ?_
  rintro e w1 ⟨rfl, hb1⟩
  go_wp2_with fail
  refine (GA.out _ (Hr.out.below hb1)).mono ?_
  rintro e w2 ⟨rfl, rfl⟩
  go_wp2_with fail
  refine (GB.out _ (Hq.out.below hb1)).mono ?_
  rintro e w2 ⟨rfl, rfl⟩
  go_wp2_with fail
  refine (CA.out _ (Hr.out.here hb1)).mono ?_
  rintro e w2 ⟨gx, rfl, _, bx, hb2⟩
  have k2 := thence hb1 hb2 (Nat.le_refl _)
  have PX := Lib.hid bx
  clear hb1 hb2 bx
  go_wp2_with fail
  refine (CB.out _ (Hq.out.here k2)).mono ?_
  rintro e w3 ⟨gy, rfl, _, bY, hb3⟩
  have k3 := thence k2 hb3 (Nat.le_refl _)
  replace PX := Lib.hid (PX.out.below hb3 PX.out.lt)
  have PY := Lib.hid bY
  have rr := Hr.out.here k3
  have rq := Hq.out.here k3
  clear k2 hb3 bY
  obtain ⟨v4, w4, r4, o4, b4⟩ := append_first w3 a n cap H rr (by rw [Hn.out]; omega)
  obtain ⟨v5, w5, r5, o5, b5⟩ := append_next w3 w4 v4 H o4 b4 b m capb K (rq.below b4) (by rw [Hn.out, Hm.out]; omega)
  rw [HGG.out] at o5
  obtain ⟨a5, cap5, rfl, r6⟩ := o5.rds (fun x hx => by
    rw [← HGG.out] at hx
    rcases List.mem_append.1 hx with h | h
    · exact ((rr.each x h).below b5).mono b5.size
    · exact ((rq.each x h).below b5).mono b5.size)
  have k5 := thence k3 b5 (Nat.le_refl _)
  replace PX := Lib.hid (PX.out.below b5 PX.out.lt)
  replace PY := Lib.hid (PY.out.below b5 PY.out.lt)
  have R4 := Lib.hid r4
  have R5 := Lib.hid r5
  have R6 := Lib.hid r6
  clear r4 r5 r6 o4 o5 b4 b5 k3 rr rq
  go_wp2_with (first | (at_builtin; refine wpList_append_run rfl _ _ _ _ rfl R4.out ?_) | (at_builtin; refine wpList_append_run rfl _ _ _ _ rfl R5.out ?_) | fail)
  refine (CG.out _ _ _ R6.out).mono ?_
  rintro e w6 ⟨gz, rfl, _, bz, hb6⟩
  have PZ := Lib.hid bz
  replace PX := Lib.hid (PX.out.below hb6 PX.out.lt)
  replace PY := Lib.hid (PY.out.below hb6 PY.out.lt)
  clear R4 R5 R6 CA CB CG GA GB AL Hr Hq HGG bz
  have k6 := Lib.hid (thence k5 hb6 (Nat.le_refl _))
  clear k5 hb6
  have HF := Lib.hid (fun A fr hA => fold_lit w6 [Hd.blk gx lx, Hd.blk gy ly] A 2 fr rfl hA (by simp) (by
    intro h hh
    simp at hh
    rcases hh with rfl | rfl
    · exact PX.out.hd FL1.out FB1.out
    · exact PY.out.hd FL2.out FB2.out) FC.out)
  go_wp2_with fail
  refine (HF.out _ _ rfl).mono ?_
  rintro e w7 ⟨gb, rfl, hgb, bb, hb7⟩
  replace bb : Blk w7 gb lz := by rw [← FF.out]; exact bb
  have T1 := text_at (w' := w7) bb FL3.out FB3.out (Below.refl _ _)
  have T2 := text_at (w' := w7) PZ.out FL3.out FB3.out hb7
  have k7 := Lib.hid (thence k6.out hb7 (Nat.le_refl _))
  clear HF hb7 bb hgb
  go_wp2
  go_ret
  exact ⟨rfl, k7.out⟩

set_option maxRecDepth 100000 in
set_option maxHeartbeats 1000000 in
theorem parts_walk (a : Option Addr) (len cap : Nat) (H : List Hd) (b : Option Addr) (lenb capb : Nat) (K : List Hd) (w : World) (hr : Rds w.heap.size w a len cap H) (hq : Rds w.heap.size w b lenb capb K) :
    Calls Try.prog 7 #[.slice a len cap, .slice b lenb capb] w fun e w' => e = .returned (.bool true) ∧ Below w.heap.size w w' := by
  have AL := Lib.hid alive_any
  have GA := Lib.hid (fun (w' : World) (hr : Rds w.heap.size w' a len cap H) => great_any a len cap H w' hr)
  have GB := Lib.hid (fun (w' : World) (hr : Rds w.heap.size w' b lenb capb K) => great_any b lenb capb K w' hr)
  have Hr := Lib.hid hr
  have Hq := Lib.hid hq
  obtain rfl := hr.long
  obtain rfl := hq.long
  by_cases hbig : big (lists H) = true ∨ big (lists K) = true
  · clear hr hq
    rcases Bool.eq_false_or_eq_true (big (lists H)) with h1 | h1
    · rw [h1] at GA
      go_enter Try.func7, Try.ntmps7
      go_wp2_with fail
      refine (AL.out _).mono ?_
      rintro e w1 ⟨rfl, hb1⟩
      go_wp2_with fail
      refine (GA.out _ (Hr.out.below hb1)).mono ?_
      rintro e w2 ⟨rfl, rfl⟩
      go_wp2
      go_ret
      exact ⟨rfl, hb1⟩
    · rw [h1] at GA
      have h2 : big (lists K) = true := by
        rcases hbig with h | h
        · rw [h] at h1; cases h1
        · exact h
      rw [h2] at GB
      go_enter Try.func7, Try.ntmps7
      go_wp2_with fail
      refine (AL.out _).mono ?_
      rintro e w1 ⟨rfl, hb1⟩
      go_wp2_with fail
      refine (GA.out _ (Hr.out.below hb1)).mono ?_
      rintro e w2 ⟨rfl, rfl⟩
      go_wp2_with fail
      refine (GB.out _ (Hq.out.below hb1)).mono ?_
      rintro e w2 ⟨rfl, rfl⟩
      go_wp2
      go_ret
      exact ⟨rfl, hb1⟩
  · have h1 : big (lists H) = false := by rw [← Bool.not_eq_true]; exact fun h => hbig (.inl h)
    have h2 : big (lists K) = false := by rw [← Bool.not_eq_true]; exact fun h => hbig (.inr h)
    by_cases hc : FO.code (lists H) = 0 ∧ FO.code (lists K) = 0 ∧ FO.code (lists (H ++ K)) = 0
    · exact parts_good a cap H b capb K w hr hq h1 h2 hc.1 hc.2.1 hc.2.2
    · exact parts_bad a cap H b capb K w hr hq h1 h2 hc

theorem twice_bad {A : List (List Nat)} (B : List (List Nat)) (h : FO.code A ≠ 0) : FO.code (A ++ B) ≠ 0 := by
  rcases code_sum A B with ⟨h1, _⟩ | h1 | ⟨_, h2, _⟩
  · omega
  · omega
  · exact absurd h2 h
theorem twice_ok {A : List (List Nat)} (b : List Nat) (h : FO.code A = 0) : (A.length = 16 ∧ FO.code (A ++ [b, b]) = 4) ∨ (A.length = 15 ∧ FO.code (A ++ [[]]) = 0 ∧ FO.code (A ++ [b, b]) = 4) ∨
    (A.length ≤ 14 ∧ FO.code (A ++ [[]]) = 0 ∧ FO.code (A ++ [b, b]) = 3 ∧ b.length ≠ 0 ∧ b.length ≠ 128) ∨ (A.length ≤ 14 ∧ FO.code (A ++ [[]]) = 0 ∧ FO.code (A ++ [b, b]) = 0) := by
  obtain ⟨h1, h2⟩ := FO.code_zero h
  have e1 : (A ++ [b, b]).length = A.length + 2 := by simp
  have e2 : (A ++ [([] : List Nat)]).length = A.length + 1 := by simp
  have g2 : FO.good (A ++ [([] : List Nat)]) = true := by rw [FO.good_append, h2]; rfl
  by_cases h3 : A.length = 16
  · exact .inl ⟨h3, FO.code_many (by omega)⟩
  · by_cases h4 : A.length = 15
    · exact .inr (.inl ⟨h4, FO.code_ok (by omega) g2, FO.code_many (by omega)⟩)
    · by_cases h5 : b.length = 0 ∨ b.length = 128
      · refine .inr (.inr (.inr ⟨by omega, FO.code_ok (by omega) g2, FO.code_ok (by omega) ?_⟩))
        rw [FO.good_append, h2, (FO.good_iff [b, b]).2]
        · rfl
        · intro l hl
          simp at hl
          subst hl
          exact h5
      · refine .inr (.inr (.inl ⟨by omega, FO.code_ok (by omega) g2, FO.code_text (by omega) ?_, fun h => h5 (.inl h), fun h => h5 (.inr h)⟩))
        rw [FO.good_append, Bool.and_eq_false_iff]
        right
        rw [← Bool.not_eq_true, FO.good_iff]
        intro h
        exact h5 (h b (by simp))

set_option maxRecDepth 100000 in
set_option maxHeartbeats 4000000 in
theorem twice_small (a : Option Addr) (cap : Nat) (H : List Hd) (b : Option Addr) (capb : Nat) (l : List Nat) (w : World) (hr : Rds w.heap.size w a H.length cap H) (hq : Rd w.heap.size w b l.length capb l)
    (h1 : big (lists H) = false) (h2 : l.length ≤ 1000) :
    Calls Try.prog 9 #[.slice a H.length cap, .slice b l.length capb] w fun e w' => e = .returned (.bool true) ∧ Below w.heap.size w w' := by
  have AL := Lib.hid alive_any
  have hl1 := (big_no h1).1
  rw [lists_length] at hl1
  have GA := Lib.hid (fun (w' : World) (hr : Rds w.heap.size w' a H.length cap H) => great_any a H.length cap H w' hr)
  rw [h1] at GA
  have CA := Lib.hid (fun (w' : World) (hr : Rds w'.heap.size w' a H.length cap H) => fold_answer a H.length cap H w' hr)
  obtain ⟨GB, HGB⟩ : ∃ G, Hid (H ++ [⟨b, l.length, capb, l⟩, ⟨b, l.length, capb, l⟩] = G) := ⟨_, by show _ = _; rfl⟩
  obtain ⟨GN, HGN⟩ : ∃ G, Hid (H ++ [Hd.nil] = G) := ⟨_, rfl⟩
  have CB := Lib.hid (fun a' cap' (w' : World) (hr : Rds w'.heap.size w' a' GB.length cap' GB) => fold_answer a' _ cap' _ w' hr)
  have CN := Lib.hid (fun a' cap' (w' : World) (hr : Rds w'.heap.size w' a' GN.length cap' GN) => fold_answer a' _ cap' _ w' hr)
  have Hr := Lib.hid hr
  have Hq := Lib.hid hq
  unfold Answer at CA CB CN
  have eB : lists GB = lists H ++ [l, l] := by rw [← HGB.out, lists_append]; rfl
  have eN : lists GN = lists H ++ [[]] := by rw [← HGN.out, lists_append]; rfl
  have ways : (FO.code (lists H) ≠ 0 ∧ FO.code (lists GB) ≠ 0 ∧ FO.code (lists GN) ≠ 0) ∨ (FO.code (lists H) = 0 ∧ FO.fold (lists GN) = FO.fold (lists H) ∧ FO.fold (lists GB) = FO.fold (lists H) ∧
      ((H.length = 16 ∧ FO.code (lists GB) = 4) ∨ (H.length = 15 ∧ FO.code (lists GN) = 0 ∧ FO.code (lists GB) = 4) ∨
    (H.length ≤ 14 ∧ FO.code (lists GN) = 0 ∧ FO.code (lists GB) = 3 ∧ l.length ≠ 0 ∧ l.length ≠ 128) ∨ (H.length ≤ 14 ∧ FO.code (lists GN) = 0 ∧ FO.code (lists GB) = 0))) := by
    rw [eB, eN, ← lists_length H]
    by_cases h : FO.code (lists H) = 0
    · exact .inr ⟨h, FO.fold_none _, FO.fold_twice _ _, twice_ok l h⟩
    · exact .inl ⟨h, twice_bad _ h, twice_bad _ h⟩
  have WW := Lib.hid ways
  clear hr hq h1 ways eB eN
  generalize FO.code (lists H) = ca at *
  generalize FO.code (lists GB) = cb at *
  generalize FO.code (lists GN) = cn at *
  generalize FO.fold (lists H) = fa at *
  generalize FO.fold (lists GB) = fb at *
  generalize FO.fold (lists GN) = fn at *
  generalize hn : H.length = n at *
  generalize hm : l.length = m at *
  have Hn := Lib.hid hn
  have Hm := Lib.hid hm
  clear hn hm
  go_enter Try.func9, Try.ntmps9
  go_wp2_with fail
  refine (AL.out _).mono ?_
  rintro e w1 ⟨rfl, hb1⟩
  go_wp2_with fail
  refine (GA.out _ (Hr.out.below hb1)).mono ?_
  rintro e w2 ⟨rfl, rfl⟩
  go_wp2_with fail
  refine (CA.out _ (Hr.out.here hb1)).mono ?_
  rintro e w2 ⟨xa, xl, xc, lx, rfl, rx, hb2, x1, x2⟩
  have k2 := thence hb1 hb2 (Nat.le_refl _)
  have RX := Lib.hid rx
  have X2 := Lib.hid x2
  have rr := Hr.out.here k2
  have rq := Hq.out.here k2
  clear hb1 hb2 rx x1 x2
  obtain ⟨v4, w4, r4, o4, b4⟩ := append_first w2 a n cap H rr (by rw [Hn.out]; omega)
  have hlit := rds_lit w4 _ [⟨b, m, capb, l⟩, ⟨b, m, capb, l⟩] #[.slice b m capb, .slice b m capb] 2 2 (0, 0) rfl rfl rfl rfl (by unfold maxLen; simp) (by
    intro h hh
    simp at hh
    subst hh
    exact (rq.below b4).mono b4.size)
  obtain ⟨v5, w5, r5, o5, b5⟩ := append_next w2 (w4.alloc _) v4 H (o4.alloc _) (b4.alloc b4.size _) _ 2 2 _ hlit (by rw [Hn.out]; simp; omega)
  rw [HGB.out] at o5
  obtain ⟨a5, cap5, rfl, r6⟩ := o5.rds (fun x hx => by
    rw [← HGB.out] at hx
    rcases List.mem_append.1 hx with h | h
    · exact ((rr.each x h).below b5).mono b5.size
    · simp at h
      subst h
      exact (rq.below b5).mono b5.size)
  have k5 := thence k2 b5 (Nat.le_refl _)
  replace RX := Lib.hid (RX.out.here b5)
  have R4 := Lib.hid r4
  have R5 := Lib.hid r5
  have R6 := Lib.hid r6
  clear r4 r5 r6 o4 o5 b4 b5 k2 rr rq hlit
  go_wp2_with (first | (at_builtin; refine wpList_append_run rfl _ _ _ _ rfl R4.out ?_) | (at_builtin; refine wpList_append_run rfl _ _ _ _ rfl R5.out ?_) | fail)
  refine (CB.out _ _ _ R6.out).mono ?_
  rintro e w6 ⟨ya, yl, yc, ly, rfl, ry, hb6, y1, y2⟩
  replace RX := Lib.hid (RX.out.here hb6)
  have RY := Lib.hid ry
  have Y2 := Lib.hid y2
  have k6 := thence k5 hb6 (Nat.le_refl _)
  have rr := Hr.out.here k6
  clear R4 R5 R6 CA CB GA AL k5 hb6 ry y1 y2
  obtain ⟨v7, w7, r7, o7, b7⟩ := append_first w6 a n cap H rr (by rw [Hn.out]; omega)
  have hlit := rds_lit w7 _ [Hd.nil] #[.slice none 0 0] 1 1 (0, 0) rfl rfl rfl rfl (by unfold maxLen; simp) (by
    intro h hh
    simp at hh
    subst hh
    exact rd_nil _ _)
  obtain ⟨v8, w8, r8, o8, b8⟩ := append_next w6 (w7.alloc _) v7 H (o7.alloc _) (b7.alloc b7.size _) _ 1 1 _ hlit (by rw [Hn.out]; simp; omega)
  rw [HGN.out] at o8
  obtain ⟨a8, cap8, rfl, r9⟩ := o8.rds (fun x hx => by
    rw [← HGN.out] at hx
    rcases List.mem_append.1 hx with h | h
    · exact ((rr.each x h).below b8).mono b8.size
    · simp at h
      subst h
      exact rd_nil _ _)
  have k8 := thence k6 b8 (Nat.le_refl _)
  replace RX := Lib.hid (RX.out.here b8)
  replace RY := Lib.hid (RY.out.here b8)
  have R7 := Lib.hid r7
  have R8 := Lib.hid r8
  have R9 := Lib.hid r9
  clear r7 r8 r9 o7 o8 b7 b8 k6 rr hlit
  go_wp2_with (first | (at_builtin; refine wpList_append_run rfl _ _ _ _ rfl R7.out ?_) | (at_builtin; refine wpList_append_run rfl _ _ _ _ rfl R8.out ?_) | fail)
  refine (CN.out _ _ _ R9.out).mono ?_
  rintro e w10 ⟨za, zl, zc, lz, rfl, rz, hb10, z1, z2⟩
  have T1 := text_is w10 _ _ _ _ (RX.out.below hb10)
  have T2 := text_is w10 _ _ _ _ (RY.out.below hb10)
  have T3 := text_is w10 _ _ _ _ rz
  have Z2 := Lib.hid z2
  have k10 := Lib.hid (thence k8 hb10 (Nat.le_refl _))
  clear R7 R8 R9 CN RX RY Hr Hq hb10 rz z1 z2 k8
  have fin : ∀ (c1 c2 c3 : Bool), True := fun _ _ _ => trivial
  clear fin
  rcases WW.out with ⟨h1, h3, h4⟩ | ⟨h1, hf1, hf2, hw⟩
  · have e1 : ((ca : Int) != 0) = true := by rw [bne_iff_ne]; omega
    have e2 : ((cb : Int) != 0) = true := by rw [bne_iff_ne]; omega
    have e3 : ((cn : Int) != 0) = true := by rw [bne_iff_ne]; omega
    clear h1 h3 h4 WW
    go_wp2
    go_ret
    exact ⟨rfl, k10.out⟩
  · have hx : lx = fa := X2.out h1
    subst h1
    rcases hw with ⟨hn, hb⟩ | ⟨hn, hc, hb⟩ | ⟨hn, hc, hb, hm1, hm2⟩ | ⟨hn, hc, hb⟩
    · subst hn hb
      clear WW hf1 hf2 hx
      go_wp2
      go_ret
      exact ⟨rfl, k10.out⟩
    · have hz : lz = lx := by rw [Z2.out hc, hf1, hx]
      subst hn hb hc
      rw [hz] at T3
      clear WW hf1 hf2 hx hz
      go_wp2
      go_ret
      exact ⟨rfl, k10.out⟩
    · have hz : lz = lx := by rw [Z2.out hc, hf1, hx]
      have e1 : ((m : Int) != 0) = true := by rw [bne_iff_ne]; omega
      have e2 : ((m : Int) != 128) = true := by rw [bne_iff_ne]; omega
      have e3 : decide ((n : Int) < 16) = true := by simp; omega
      have e4 : decide ((14 : Int) < (n : Int)) = false := by simp; omega
      have e5 : decide ((n : Int) ≤ 14) = true := by simp; omega
      subst hb hc
      rw [hz] at T3
      clear WW hf1 hf2 hx hz
      go_wp2
      go_ret
      exact ⟨rfl, k10.out⟩
    · have hz : lz = lx := by rw [Z2.out hc, hf1, hx]
      have hy : ly = lx := by rw [Y2.out hb, hf2, hx]
      have e3 : decide ((n : Int) < 16) = true := by simp; omega
      subst hb hc
      rw [hz] at T3
      rw [hy] at T2
      clear WW hf1 hf2 hx hz hy
      go_wp2
      go_ret
      exact ⟨rfl, k10.out⟩

set_option maxRecDepth 100000 in
set_option maxHeartbeats 1000000 in
theorem twice_walk (a : Option Addr) (len cap : Nat) (H : List Hd) (b : Option Addr) (lenb capb : Nat) (l : List Nat) (w : World) (hr : Rds w.heap.size w a len cap H) (hq : Rd w.heap.size w b lenb capb l) :
    Calls Try.prog 9 #[.slice a len cap, .slice b lenb capb] w fun e w' => e = .returned (.bool true) ∧ Below w.heap.size w w' := by
  obtain rfl := hr.long
  obtain rfl := hq.long
  rcases Bool.eq_false_or_eq_true (big (lists H)) with h1 | h1
  · have AL := Lib.hid alive_any
    have GA := Lib.hid (fun (w' : World) (hr : Rds w.heap.size w' a H.length cap H) => great_any a H.length cap H w' hr)
    rw [h1] at GA
    have Hr := Lib.hid hr
    clear hr hq h1
    go_enter Try.func9, Try.ntmps9
    go_wp2_with fail
    refine (AL.out _).mono ?_
    rintro e w1 ⟨rfl, hb1⟩
    go_wp2_with fail
    refine (GA.out _ (Hr.out.below hb1)).mono ?_
    rintro e w2 ⟨rfl, rfl⟩
    go_wp2
    go_ret
    exact ⟨rfl, hb1⟩
  · by_cases h2 : l.length ≤ 1000
    · exact twice_small a cap H b capb l w hr hq h1 h2
    · have AL := Lib.hid alive_any
      have GA := Lib.hid (fun (w' : World) (hr : Rds w.heap.size w' a H.length cap H) => great_any a H.length cap H w' hr)
      rw [h1] at GA
      have Hr := Lib.hid hr
      have hq1 := hq.small
      have hq2 := hq.fits
      unfold maxLen at hq1
      have h3 : (1000 : Int) < (l.length : Int) := by omega
      clear hr hq h1 h2
      generalize l.length = m at *
      go_enter Try.func9, Try.ntmps9
      go_wp2_with fail
      refine (AL.out _).mono ?_
      rintro e w1 ⟨rfl, hb1⟩
      go_wp2_with fail
      refine (GA.out _ (Hr.out.below hb1)).mono ?_
      rintro e w2 ⟨rfl, rfl⟩
      go_wp2
      go_ret
      exact ⟨rfl, hb1⟩
end Go.Proofs.Yticojepedpionaa.PW
