/-
  The walk of FoldOrder: two blocks change places, and nothing else is.
-/
import Derived.Test.YticojepedpionaaFoldTwo
import Derived.Deep.RegionHeld3
namespace Go.Proofs.Yticojepedpionaa.PW
open Go.RowKit
set_option linter.unusedVariables false

theorem swp_lists (H : List Hd) (x y : Nat) : lists ((H.set x (H.getD y Hd.nil)).set y (H.getD x Hd.nil)) = FO.swp (lists H) x y := by
  unfold FO.swp
  rw [lists_set, lists_set, lists_getD, lists_getD]

set_option maxRecDepth 100000 in
set_option maxHeartbeats 2000000 in
theorem order_small (a : Option Addr) (cap : Nat) (H : List Hd) (x y : Nat) (w : World) (hr : Rds w.heap.size w a H.length cap H) (h1 : big (lists H) = false) (hx : x < H.length) (hy : y < H.length) :
    Calls Try.prog 6 #[.slice a H.length cap, .int .i64 x, .int .i64 y] w fun e w' => e = .returned (.bool true) ∧ Below w.heap.size w w' := by
  have AL := Lib.hid alive_any
  have hl1 := (big_no h1).1
  rw [lists_length] at hl1
  have GA := Lib.hid (fun (w' : World) (hr : Rds w.heap.size w' a H.length cap H) => great_any a H.length cap H w' hr)
  rw [h1] at GA
  have CA := Lib.hid (fun (w' : World) (hr : Rds w'.heap.size w' a H.length cap H) => fold_answer a H.length cap H w' hr)
  have sl := swp_lists H x y
  have cs := FO.code_swp (lists H) x y (by rw [lists_length]; exact hx) (by rw [lists_length]; exact hy)
  have fs := FO.fold_swp (lists H) x y (by rw [lists_length]; exact hx) (by rw [lists_length]; exact hy)
  rw [← sl] at cs fs
  have gl : ((H.set x (H.getD y Hd.nil)).set y (H.getD x Hd.nil)).length = H.length := by simp
  have CG := Lib.hid (fun a' cap' (w' : World) (hr : Rds w'.heap.size w' a' H.length cap' ((H.set x (H.getD y Hd.nil)).set y (H.getD x Hd.nil))) => fold_answer a' _ cap' _ w' hr)
  unfold Answer at CA CG
  rw [cs, fs] at CG
  have Hr := Lib.hid hr
  obtain ⟨b, off, xa, xl, xc, xv, ha, hB, hX, cx, rx⟩ := hr.at x hx
  obtain ⟨b', off', ya, yl, yc, yv, ha', _, hY, cy, ry⟩ := hr.at y hy
  subst ha
  injection ha' with ha'
  injection ha' with hb1 hb2
  subst hb1 hb2
  obtain ⟨G, HG⟩ : ∃ G, Hid ((H.set x ⟨ya, yl, yc, yv⟩).set y ⟨xa, xl, xc, xv⟩ = G) := ⟨_, by show _ = _; rfl⟩
  rw [hX, hY] at CG gl
  rw [HG.out] at CG gl
  have GL := Lib.hid gl
  have HX := Lib.hid hX
  have HY := Lib.hid hY
  have Rx := Lib.hid rx
  have Ry := Lib.hid ry
  clear hr h1 sl cs fs hX hY gl rx ry
  generalize FO.code (lists H) = ca at *
  generalize FO.fold (lists H) = fa at *
  generalize hn : H.length = n at *
  have Hn := Lib.hid hn
  clear hn
  go_enter Try.func6, Try.ntmps6
  go_wp2_with fail
  refine (AL.out _).mono ?_
  rintro e w1 ⟨rfl, hb1⟩
  go_wp2_with fail
  refine (GA.out _ (Hr.out.below hb1)).mono ?_
  rintro e w2 ⟨rfl, rfl⟩
  have rr := Hr.out.here hb1
  have f1 : w1.cell? ⟨b, off + x, none⟩ = some (.slice xa xl xc) := by rw [hb1.cell (p := ⟨b, off + x, none⟩) hB]; exact cx
  have f2 : w1.cell? ⟨b, off + y, none⟩ = some (.slice ya yl yc) := by rw [hb1.cell (p := ⟨b, off + y, none⟩) hB]; exact cy
  have hB1 : b < w1.heap.size := Nat.lt_of_lt_of_le hB hb1.size
  obtain ⟨v4, w4, r4, o4, b4⟩ := append_first w1 _ n cap H rr (by rw [Hn.out]; omega)
  obtain ⟨g, cap4, rfl, hg, hgl, _, hcm⟩ := o4.form (by rw [Hn.out]; omega)
  rw [← b4.cell (p := ⟨b, off + x, none⟩) hB1] at f1
  rw [← b4.cell (p := ⟨b, off + y, none⟩) hB1] at f2
  have hne : g ≠ b := by omega
  have k4 := thence hb1 b4 (Nat.le_refl _)
  have b5 := (b4.setCell (p := ⟨g, x, none⟩) hg (.slice ya yl yc))
  have b6 := (b5.setCell (p := ⟨g, y, none⟩) hg (.slice xa xl xc))
  have g1 := o4.cell rfl x (by rw [Hn.out]; exact hx)
  have g2 := o4.frozen rfl x
  rw [HX.out] at g1
  have o5 := o4.stored rfl x ⟨ya, yl, yc, yv⟩
  have g3 := o5.cell (by simp) y (by rw [List.length_set, Hn.out]; exact hy)
  have g4 := o5.frozen (by simp) y
  have o6 := o5.stored (by simp) y ⟨xa, xl, xc, xv⟩
  rw [HG.out] at o6
  rw [Hn.out] at o6
  have R4 := Lib.hid r4
  have O6 := Lib.hid o6
  have B6 := Lib.hid b6
  have K1 := Lib.hid hb1
  generalize (H.set x ⟨ya, yl, yc, yv⟩).getD y Hd.nil = vy at g3
  obtain ⟨va, vl, vc, vv⟩ := vy
  rw [Hn.out] at R4
  clear r4 rr o4 o5 o6 b4 b5 b6 k4 hb1 cx cy
  simp only [Hd.val] at g1 g3 g4 O6 B6
  go_wp2_with (first | (at_builtin; refine wpList_append_run rfl _ _ _ _ rfl R4.out ?_) | fail)
  go_region_held3 (fun w' => w'.cell? ⟨b, off + x, none⟩ = some (.slice xa xl xc) ∧ w'.cell? ⟨b, off + y, none⟩ = some (.slice ya yl yc)) (go_keep) (fail)
  replace O6 := Lib.hid (O6.out.drew)
  replace B6 := Lib.hid (B6.out.drew)
  generalize ((w4.setCell ⟨g, x, none⟩ (.slice ya yl yc)).setCell ⟨g, y, none⟩ (.slice xa xl xc)).drew = w6 at O6 B6 ⊢
  have rr := Hr.out.here (K1.out)
  have each : ∀ z ∈ G, z.Rd w6.heap.size w6 := by
    intro z hz
    rw [← HG.out] at hz
    have k6 := thence K1.out B6.out (Nat.le_refl _)
    rcases List.mem_or_eq_of_mem_set hz with hz | rfl
    · rcases List.mem_or_eq_of_mem_set hz with hz | rfl
      · exact ((rr.each z hz).below B6.out).mono B6.out.size
      · exact (Ry.out.below k6).mono k6.size
    · exact (Rx.out.below k6).mono k6.size
  have o6 := O6.out
  rw [← GL.out] at o6
  obtain ⟨ag, capg, hv, r6⟩ := o6.rds each
  injection hv with hv1 hv2 hv3
  subst hv1 hv3
  rw [GL.out] at r6
  have R6 := Lib.hid r6
  have K6 := Lib.hid (thence K1.out B6.out (Nat.le_refl _))
  clear rr each r6 o6 O6 B6 g1 g2 g3 g4 f1 f2 hne hg hgl hcm R4 K1 HG HX HY Rx Ry GA AL
  go_wp2_with fail
  refine (CA.out _ (Hr.out.here K6.out)).mono ?_
  rintro e w7 ⟨pa, pl, pc, p, rfl, rp, hb7, p1, p2⟩
  have RP := Lib.hid rp
  have P1 := Lib.hid p1
  have P2 := Lib.hid p2
  have K7 := Lib.hid (thence K6.out hb7 (Nat.le_refl _))
  replace R6 := Lib.hid (R6.out.here hb7)
  clear rp p1 p2 hb7
  go_wp2_with fail
  refine (CG.out _ _ _ R6.out).mono ?_
  rintro e w8 ⟨qa, ql, qc, q, rfl, rq, hb8, q1, q2⟩
  have hpq : q = p := by
    by_cases h : ca = 0
    · rw [q2 h, P2.out h]
    · rw [q1 h, P1.out h]
  subst hpq
  have T1 := text_is w8 _ _ _ _ (RP.out.below hb8)
  have T2 := text_is w8 _ _ _ _ rq
  have K8 := Lib.hid (thence K7.out hb8 (Nat.le_refl _))
  clear RP P1 P2 rq q1 q2 hb8 CA CG Hr R6
  go_wp2
  go_ret
  exact ⟨rfl, K8.out⟩

set_option maxRecDepth 100000 in
set_option maxHeartbeats 1000000 in
theorem order_out (a : Option Addr) (cap : Nat) (H : List Hd) (x y : Int) (w : World) (hr : Rds w.heap.size w a H.length cap H) (h : big (lists H) = true ∨ (big (lists H) = false ∧ (x < 0 ∨ (0 ≤ x ∧ (H.length : Int) ≤ x) ∨ (0 ≤ x ∧ x < (H.length : Int) ∧ y < 0) ∨ (0 ≤ x ∧ x < (H.length : Int) ∧ 0 ≤ y ∧ (H.length : Int) ≤ y)))) :
    Calls Try.prog 6 #[.slice a H.length cap, .int .i64 x, .int .i64 y] w fun e w' => e = .returned (.bool true) ∧ Below w.heap.size w w' := by
  have AL := Lib.hid alive_any
  have GA := Lib.hid (fun (w' : World) (hr : Rds w.heap.size w' a H.length cap H) => great_any a H.length cap H w' hr)
  have Hr := Lib.hid hr
  have hr1 := hr.small
  have hr2 := hr.fits
  unfold maxLen at hr1
  clear hr
  generalize H.length = n at *
  rcases h with h | ⟨h, h2 | ⟨h2, h3⟩ | ⟨h2, h3, h4⟩ | ⟨h2, h3, h4, h5⟩⟩
  all_goals
    rw [h] at GA
    clear h
    go_enter Try.func6, Try.ntmps6
    go_wp2_with fail
    refine (AL.out _).mono ?_
    rintro e w1 ⟨rfl, hb1⟩
    go_wp2_with fail
    refine (GA.out _ (Hr.out.below hb1)).mono ?_
    rintro e w2 ⟨rfl, rfl⟩
    go_wp2
    go_ret
    exact ⟨rfl, hb1⟩

theorem order_walk (a : Option Addr) (len cap : Nat) (H : List Hd) (x y : Int) (w : World) (hr : Rds w.heap.size w a len cap H) :
    Calls Try.prog 6 #[.slice a len cap, .int .i64 x, .int .i64 y] w fun e w' => e = .returned (.bool true) ∧ Below w.heap.size w w' := by
  obtain rfl := hr.long
  rcases Bool.eq_false_or_eq_true (big (lists H)) with h1 | h1
  · exact order_out a cap H x y w hr (.inl h1)
  · by_cases h : 0 ≤ x ∧ x < (H.length : Int) ∧ 0 ≤ y ∧ y < (H.length : Int)
    · obtain ⟨x', rfl⟩ := Int.eq_ofNat_of_zero_le h.1
      obtain ⟨y', rfl⟩ := Int.eq_ofNat_of_zero_le h.2.2.1
      exact order_small a cap H x' y' w hr h1 (by omega) (by omega)
    · exact order_out a cap H x y w hr (.inr ⟨h1, by omega⟩)
end Go.Proofs.Yticojepedpionaa.PW
