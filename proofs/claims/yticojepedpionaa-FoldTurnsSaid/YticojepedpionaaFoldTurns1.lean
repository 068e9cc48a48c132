/-
  The walk of FoldTurns: one byte of one block turned.
-/
import Derived.Test.YticojepedpionaaFoldTwo
import Derived.RegionTactic
namespace Go.Proofs.Yticojepedpionaa.PW
open Go.RowKit
set_option linter.unusedVariables false

theorem OwnS.far {w : World} {base g gb i n cap : Nat} {H : List Hd} (h : OwnS w base (.slice (some ⟨g, 0, none⟩) n cap) H) (hne : g ≠ gb) (u : Value) : OwnS (w.setCell ⟨gb, i, none⟩ u) base (.slice (some ⟨g, 0, none⟩) n cap) H := by
  rcases h.2 with ⟨h0, _⟩ | ⟨g', cap', cur, hv, hgb, hh, rest⟩
  · cases h0
  · injection hv with hv1 hv2 hv3
    injection hv1 with hv1
    injection hv1 with hv1
    subst hv1
    exact ⟨h.1, .inr ⟨g, cap', cur, by rw [hv3, hv2], hgb, by rw [Below.heap_setCell _ _ _ _ hne]; exact hh, rest⟩⟩

/-- A byte turned. -/
def trn (l : List Nat) (i y : Nat) : List Nat := l.set i (l.getD i 0 ^^^ y)
theorem trn_length (l : List Nat) (i y : Nat) : (trn l i y).length = l.length := by simp [trn]
theorem trn_get (l : List Nat) (i y k : Nat) (hi : i < l.length) : (trn l i y).getD k 0 = if k = i then l.getD i 0 ^^^ y else l.getD k 0 := by
  unfold trn
  simp only [List.getD, List.getElem?_set]
  by_cases h : k = i
  · subst h; simp [hi]
  · rw [if_neg (fun e => h e.symm), if_neg h]
theorem trn_bytes {l : List Nat} (h : Bytes l) (i : Nat) {y : Nat} (hy : y < 256) : Bytes (trn l i y) := by
  intro x hx
  rcases List.mem_or_eq_of_mem_set hx with h1 | rfl
  · exact h x h1
  · exact Nat.xor_lt_two_pow (n := 8) (FO.getD_lt h i) hy
theorem turned_code (L : List (List Nat)) (p i y : Nat) (hp : p < L.length) (h : (L.getD p []).length = 128) : FO.code (L.set p (trn (L.getD p []) i y)) = FO.code L := by
  unfold FO.code
  rw [List.length_set, FO.good_set _ _ hp (by rw [trn_length])]
theorem turned_get (L : List (List Nat)) (p i y k : Nat) (hp : p < L.length) (h : (L.getD p []).length = 128) (hi : i < 128) (hk : k < 128) :
    (FO.fold (L.set p (trn (L.getD p []) i y))).getD k 0 = if k = i then (FO.fold L).getD i 0 ^^^ y else (FO.fold L).getD k 0 := by
  rw [FO.fold_get _ _ hk, FO.xs_set _ _ _ _ hp, trn_get _ _ _ _ (by rw [h]; exact hi)]
  by_cases h1 : k = i
  · subst h1
    rw [if_pos rfl, if_pos rfl, FO.fold_get _ _ hk, ← Nat.xor_assoc ((L.getD p []).getD k 0), Nat.xor_self, Nat.zero_xor]
  · rw [if_neg h1, if_neg h1, Nat.xor_self, Nat.xor_zero, FO.fold_get _ _ hk]

set_option maxRecDepth 100000 in
set_option maxHeartbeats 4000000 in
theorem turns_main (a : Option Addr) (cap : Nat) (H : List Hd) (p n y : Nat) (w : World) (hr : Rds w.heap.size w a H.length cap H) (h1 : big (lists H) = false) (hp : p < H.length) (hl : ((lists H).getD p []).length = 128) (hn8 : n < 256) (hy : y < 256) :
    Calls Try.prog 8 #[.slice a H.length cap, .int .i64 p, .int .u8 n, .int .u8 y] w fun e w' => e = .returned (.bool true) ∧ Below w.heap.size w w' := by
  have AL := Lib.hid alive_any
  have hl1 := (big_no h1).1
  rw [lists_length] at hl1
  have GA := Lib.hid (fun (w' : World) (hr : Rds w.heap.size w' a H.length cap H) => great_any a H.length cap H w' hr)
  rw [h1] at GA
  have CA := Lib.hid (fun (w' : World) (hr : Rds w'.heap.size w' a H.length cap H) => fold_answer a H.length cap H w' hr)
  obtain ⟨b, off, xa, xl, xc, xv, rfl, hB, hX, cx, rx⟩ := hr.at p hp
  have hxv : (lists H).getD p [] = xv := by rw [lists_getD, hX]
  have hmod : (n : Int) % 128 = ((n % 128 : Nat) : Int) := by omega
  have hi : n % 128 < 128 := Nat.mod_lt _ (by decide)
  generalize n % 128 = i at *
  have cs := turned_code (lists H) p i y (by rw [lists_length]; exact hp) hl
  have fs := fun k hk => turned_get (lists H) p i y k (by rw [lists_length]; exact hp) hl hi hk
  rw [hxv] at cs fs hl
  have Hr := Lib.hid hr
  have FL1 := Lib.hid (FO.fold_length (lists H))
  obtain rfl : 128 = xl := by rw [rx.long, hl]
  have CG := Lib.hid (fun a' cap' gb capb (w' : World) (hr : Rds w'.heap.size w' a' H.length cap' (H.set p ⟨some ⟨gb, 0, none⟩, 128, capb, trn xv i y⟩)) => (by
    have h := fold_answer a' _ cap' _ w' hr
    unfold Answer at h
    rw [lists_set] at h
    exact h :
    Calls Try.prog 10 #[.slice a' H.length cap'] w' fun e w'' => ∃ a len cap l, e = .returned (.tuple #[.slice a len cap, .int .i64 (FO.code ((lists H).set p (trn xv i y)) : Nat)]) ∧ Rd w''.heap.size w'' a len cap l ∧ Below w'.heap.size w' w'' ∧ (FO.code ((lists H).set p (trn xv i y)) ≠ 0 → l = []) ∧ (FO.code ((lists H).set p (trn xv i y)) = 0 → l = FO.fold ((lists H).set p (trn xv i y)))))
  rw [cs] at CG
  unfold Answer at CA
  have FS := Lib.hid fs
  have Rx := Lib.hid rx
  have Hl := Lib.hid hl
  have FL2 := Lib.hid (FO.fold_length ((lists H).set p (trn xv i y)))
  have FB1 : Hid (Bytes (FO.fold (lists H))) := FO.fold_bytes hr.bytes
  clear hr h1 hxv hX cs fs rx hl
  generalize FO.code (lists H) = ca at *
  generalize FO.fold (lists H) = fa at *
  generalize FO.fold ((lists H).set p (trn xv i y)) = fb at *
  generalize hn : H.length = m at *
  have Hn := Lib.hid hn
  clear hn
  have hlen : ((128 : Int) != 128) = false := rfl
  go_enter Try.func8, Try.ntmps8
  go_wp2_with fail
  refine (AL.out _).mono ?_
  rintro e w1 ⟨rfl, hb1⟩
  go_wp2_with fail
  refine (GA.out _ (Hr.out.below hb1)).mono ?_
  rintro e w2 ⟨rfl, rfl⟩
  have rr := Hr.out.here hb1
  have hB1 : b < w1.heap.size := Nat.lt_of_lt_of_le hB hb1.size
  have f1 : w1.cell? ⟨b, off + p, none⟩ = some (.slice xa 128 xc) := by rw [hb1.cell (p := ⟨b, off + p, none⟩) hB]; exact cx
  obtain ⟨v4, w4, r4, o4, b4⟩ := append_first w1 _ m cap H rr (by rw [Hn.out]; omega)
  obtain ⟨g, cap4, rfl, hg, hgl, _, hcm⟩ := o4.form (by rw [Hn.out]; omega)
  have f4 : w4.cell? ⟨b, off + p, none⟩ = some (.slice xa 128 xc) := by rw [b4.cell (p := ⟨b, off + p, none⟩) hB1]; exact f1
  have k4 := thence hb1 b4 (Nat.le_refl _)
  obtain ⟨v5, w5, r5, o5, g5, q5⟩ := append_bytes w4 w4.heap.size _ [] (own_nil _ _) _ xa 128 xc xv (Rx.out.below k4) (by rw [Hl.out]; simp) (Nat.le_refl _)
  have b5 : Below w4.heap.size w4 w5 := (Below.refl _ _).grown g5 (Nat.le_refl _) (by simp [Value.ownBlock])
  rw [List.nil_append] at o5
  obtain ⟨gb, capb, rfl, hgb, hgbl, _, hcm5⟩ := o5.form (by rw [Hl.out]; omega)
  have hne : g ≠ gb := by omega
  have hne' : gb ≠ g := by omega
  have o4' := o4.grown b5
  have c5 := o4'.cell rfl p (by rw [Hn.out]; exact hp)
  have z5 := o4'.frozen rfl p
  have o6 := o4'.stored rfl p ⟨some ⟨gb, 0, none⟩, 128, capb, trn xv i y⟩
  have q6 : Own (w5.setCell ⟨g, p, none⟩ (.slice (some ⟨gb, 0, none⟩) 128 capb)) w4.heap.size (.slice (some ⟨gb, 0, none⟩) xv.length capb) xv := ownsRow_setCell_below o5 (a := ⟨g, p, none⟩) hgl _
  have b6 : Below w1.heap.size w1 (w5.setCell ⟨g, p, none⟩ (.slice (some ⟨gb, 0, none⟩) 128 capb)) := (thence b4 b5 (Nat.le_refl _)).setCell hg _
  have c6 := o6.cell (by simp) p (by rw [List.length_set, Hn.out]; exact hp)
  have d6 := q6.cell rfl i (by rw [Hl.out]; exact hi)
  have z6 := q6.frozen rfl i
  have q7 := q6.stored rfl i (xv.getD i 0 ^^^ y)
  have o7 := o6.far (gb := gb) (i := i) hne (.int .u8 ((xv.getD i 0 ^^^ y : Nat) : Int))
  have b7 := b6.setCell (p := ⟨gb, i, none⟩) (by show w1.heap.size ≤ gb; have := b4.size; omega) (.int .u8 ((xv.getD i 0 ^^^ y : Nat) : Int))
  have hx8 := xor8 _ _ (FO.getD_lt Rx.out.byt i) hy
  have hbyt : Bytes (trn xv i y) := trn_bytes Rx.out.byt i hy
  rw [Hl.out] at q7 r5
  rw [Hn.out] at r4 o7
  have e6 : ((H.set p ⟨some ⟨gb, 0, none⟩, 128, capb, trn xv i y⟩).getD p Hd.nil).val = .slice (some ⟨gb, 0, none⟩) 128 capb := by
    simp [List.getD, show p < H.length by rw [Hn.out]; exact hp, Hd.val]
  rw [e6] at c6
  have R4 := Lib.hid r4
  have R5 := Lib.hid r5
  have Q7 : Hid (Own _ _ _ (trn xv i y)) := q7
  have O7 := Lib.hid o7
  have B7 := Lib.hid b7
  have K1 := Lib.hid hb1
  have HBY := Lib.hid hbyt
  generalize H.getD p Hd.nil = v5 at c5
  obtain ⟨va, vl, vc, vv⟩ := v5
  clear r4 r5 rr o4 o5 o4' o6 q6 q7 o7 b4 b5 b6 b7 k4 hb1 cx e6 g5 q5 hbyt
  simp only [Hd.val] at c5 c6 O7 B7
  generalize xv.getD i 0 = z at *
  generalize z ^^^ y = z' at *
  go_wp2_with (first | (at_builtin; refine wpList_append_run rfl _ _ _ _ rfl R4.out ?_) | (at_builtin; refine wpList_append_run rfl _ _ _ _ rfl R5.out ?_) | fail)
  go_region
  replace Q7 := Lib.hid (Q7.out.drew)
  replace O7 := Lib.hid (O7.out.drew)
  replace B7 := Lib.hid (B7.out.drew)
  generalize ((w5.setCell ⟨g, p, none⟩ (.slice (some ⟨gb, 0, none⟩) 128 capb)).setCell ⟨gb, i, none⟩ (.int .u8 (z' : Int))).drew = w7 at Q7 O7 B7 ⊢
  have rr := Hr.out.here (K1.out)
  have htl : (trn xv i y).length = 128 := by rw [trn_length, Hl.out]
  have q7 := Q7.out
  rw [← htl] at q7
  obtain ⟨ad, capd, hvd, rd7⟩ := Own.rd q7 HBY.out
  injection hvd with hv1 hv2 hv3
  subst hv1 hv3
  rw [htl] at rd7
  have each : ∀ u ∈ H.set p ⟨some ⟨gb, 0, none⟩, 128, capb, trn xv i y⟩, u.Rd w7.heap.size w7 := by
    intro u hu
    rcases List.mem_or_eq_of_mem_set hu with hu | rfl
    · exact ((rr.each u hu).below B7.out).mono B7.out.size
    · exact rd7
  have gl : (H.set p ⟨some ⟨gb, 0, none⟩, 128, capb, trn xv i y⟩).length = m := by rw [List.length_set, Hn.out]
  have o7 := O7.out
  rw [← gl] at o7
  obtain ⟨ag, capg, hv, r7⟩ := o7.rds each
  injection hv with hv1 hv2 hv3
  subst hv1 hv3
  rw [gl] at r7
  have R7 := Lib.hid r7
  have K7 := Lib.hid (thence K1.out B7.out (Nat.le_refl _))
  clear rr htl q7 rd7 each gl o7 r7 hv2 Q7 O7 B7 K1 HBY R4 R5 c5 c6 d6 z5 z6 hx8 f1 f4 hne hne' hg hgl hgb hgbl hcm hcm5 GA AL Rx
  go_wp2_with fail
  refine (CA.out _ (Hr.out.here K7.out)).mono ?_
  rintro e w8 ⟨pa, pl, pc, lp, rfl, rp, hb8, p1, p2⟩
  have RP := Lib.hid rp
  have P1 := Lib.hid p1
  have P2 := Lib.hid p2
  have K8 := Lib.hid (thence K7.out hb8 (Nat.le_refl _))
  replace R7 := Lib.hid (R7.out.here hb8)
  clear rp p1 p2 hb8 K7
  go_wp2_with fail
  refine (CG.out _ _ _ _ _ R7.out).mono ?_
  rintro e w9 ⟨qa, ql, qc, lq, rfl, rq, hb9, q1, q2⟩
  replace RP := Lib.hid (RP.out.here hb9)
  have RQ := Lib.hid rq
  have Q1 := Lib.hid q1
  have Q2 := Lib.hid q2
  have K9 := Lib.hid (thence K8.out hb9 (Nat.le_refl _))
  clear rq q1 q2 hb9 K8 CA CG Hr R7
  by_cases h0 : ca = 0
  · have hlp := P2.out h0
    have hlq := Q2.out h0
    subst h0 hlp hlq
    obtain rfl : pl = 128 := by rw [RP.out.long, FL1.out]
    obtain rfl : ql = 128 := by rw [RQ.out.long, FL2.out]
    clear P1 P2 Q1 Q2
    obtain ⟨bp, op, rfl, hBp, hcp⟩ := RP.out.cells (by intro e; have := FL1.out; rw [e] at this; simp at this)
    obtain ⟨bq, oq, rfl, hBq, hcq⟩ := RQ.out.cells (by intro e; have := FL2.out; rw [e] at this; simp at this)
    have HCP := Lib.hid hcp
    have HCQ := Lib.hid hcq
    clear hcp hcq
    go_wp2
    go_loopw [16] (fun j wr => ∃ k : Nat, k ≤ 128 ∧ j = .int .i64 k ∧ Below w.heap.size w wr ∧ Below w9.heap.size w9 wr) (fun j _ => 128 - (intOf j).toNat)
    case atStart => exact ⟨0, by omega, rfl, K9.out, Below.refl _ _⟩
    case round =>
      obtain ⟨k, hk, rfl, kb, k9⟩ := hrel
      by_cases hlt : k < 128
      · have c1 : wr.cell? ⟨bp, op + k, none⟩ = some (.int .u8 ((lp.getD k 0 : Nat) : Int)) := by
          rw [k9.cell (p := ⟨bp, op + k, none⟩) hBp]; exact HCP.out k (by rw [FL1.out]; exact hlt)
        have c2 : wr.cell? ⟨bq, oq + k, none⟩ = some (.int .u8 ((lq.getD k 0 : Nat) : Int)) := by
          rw [k9.cell (p := ⟨bq, oq + k, none⟩) hBq]; exact HCQ.out k (by rw [FL2.out]; exact hlt)
        by_cases hki : k = i
        · subst hki
          generalize lp.getD k 0 = x1 at *
          generalize lq.getD k 0 = x2 at *
          go_wp2
          go_quiet (fail)
          go_wp2
          go_roundw
          case rel => exact ⟨k + 1, by omega, by go_num, below_drewN kb _, below_drewN k9 _⟩
          case measure => simp [intOf]; omega
        · have e := FS.out k hlt
          rw [if_neg hki] at e
          rw [e] at c2
          have d1 : ((k : Int) != (i : Int)) = true := by rw [bne_iff_ne]; omega
          have d2 : (k != i) = true := by rw [bne_iff_ne]; omega
          have d3 : ((k : Int) == (i : Int)) = false := by rw [beq_eq_false_iff_ne]; omega
          have d4 : (k == i) = false := by rw [beq_eq_false_iff_ne]; omega
          clear e
          generalize lp.getD k 0 = x1 at *
          go_wp2
          go_quiet (fail)
          go_wp2
          go_roundw
          case rel => exact ⟨k + 1, by omega, by go_num, below_drewN kb _, below_drewN k9 _⟩
          case measure => simp [intOf]; omega
      · obtain rfl : k = 128 := by omega
        have c1 : wr.cell? ⟨bp, op + i, none⟩ = some (.int .u8 ((lp.getD i 0 : Nat) : Int)) := by
          rw [k9.cell (p := ⟨bp, op + i, none⟩) hBp]; exact HCP.out i (by rw [FL1.out]; exact hi)
        have c2 : wr.cell? ⟨bq, oq + i, none⟩ = some (.int .u8 ((lq.getD i 0 : Nat) : Int)) := by
          rw [k9.cell (p := ⟨bq, oq + i, none⟩) hBq]; exact HCQ.out i (by rw [FL2.out]; exact hi)
        have e := FS.out i hi
        rw [if_pos rfl] at e
        rw [e] at c2
        have hx8 := xor8 _ _ (FO.getD_lt FB1.out i) hy
        clear e
        generalize lp.getD i 0 = x1 at *
        generalize x1 ^^^ y = x2 at *
        go_wp2
        go_quiet (fail)
        go_wp2
        go_ret
        exact ⟨rfl, below_drewN kb _⟩
  · have e1 : ((ca : Int) != 0) = true := by rw [bne_iff_ne]; omega
    clear P1 P2 Q1 Q2 FS FL1 FL2 RP RQ FB1 h0
    go_wp2
    go_ret
    exact ⟨rfl, K9.out⟩

set_option maxRecDepth 100000 in
set_option maxHeartbeats 2000000 in
theorem turns_out (a : Option Addr) (cap : Nat) (H : List Hd) (p : Int) (n y : Nat) (w : World) (hr : Rds w.heap.size w a H.length cap H) (hn8 : n < 256) (h : big (lists H) = true ∨ (big (lists H) = false ∧ (p < 0 ∨ (0 ≤ p ∧ (H.length : Int) ≤ p)))) :
    Calls Try.prog 8 #[.slice a H.length cap, .int .i64 p, .int .u8 n, .int .u8 y] w fun e w' => e = .returned (.bool true) ∧ Below w.heap.size w w' := by
  have AL := Lib.hid alive_any
  have GA := Lib.hid (fun (w' : World) (hr : Rds w.heap.size w' a H.length cap H) => great_any a H.length cap H w' hr)
  have Hr := Lib.hid hr
  have hr1 := hr.small
  have hr2 := hr.fits
  unfold maxLen at hr1
  clear hr
  have hmod : (n : Int) % 128 = ((n % 128 : Nat) : Int) := by omega
  generalize n % 128 = i at *
  generalize H.length = m at *
  rcases h with h | ⟨h, h2 | ⟨h2, h3⟩⟩
  all_goals
    rw [h] at GA
    clear h
    go_enter Try.func8, Try.ntmps8
    go_wp2_with fail
    refine (AL.out _).mono ?_
    rintro e w1 ⟨rfl, hb1⟩
    go_wp2_with fail
    refine (GA.out _ (Hr.out.below hb1)).mono ?_
    rintro e w2 ⟨rfl, rfl⟩
    go_wp2
    go_ret
    exact ⟨rfl, hb1⟩

set_option maxRecDepth 100000 in
set_option maxHeartbeats 2000000 in
theorem turns_short (a : Option Addr) (cap : Nat) (H : List Hd) (p n y : Nat) (w : World) (hr : Rds w.heap.size w a H.length cap H) (h1 : big (lists H) = false) (hp : p < H.length) (hl : ((lists H).getD p []).length ≠ 128) (hn8 : n < 256) :
    Calls Try.prog 8 #[.slice a H.length cap, .int .i64 p, .int .u8 n, .int .u8 y] w fun e w' => e = .returned (.bool true) ∧ Below w.heap.size w w' := by
  have AL := Lib.hid alive_any
  have hl1 := (big_no h1).1
  have hl2 := (big_no h1).2 _ (mem_getD (d := []) (by rw [lists_length]; exact hp))
  rw [lists_length] at hl1
  have GA := Lib.hid (fun (w' : World) (hr : Rds w.heap.size w' a H.length cap H) => great_any a H.length cap H w' hr)
  rw [h1] at GA
  obtain ⟨b, off, xa, xl, xc, xv, rfl, hB, hX, cx, rx⟩ := hr.at p hp
  have hxv : (lists H).getD p [] = xv := by rw [lists_getD, hX]
  rw [hxv] at hl hl2
  obtain rfl := rx.long
  have Hr := Lib.hid hr
  have hmod : (n : Int) % 128 = ((n % 128 : Nat) : Int) := by omega
  generalize n % 128 = i at *
  clear hr h1 hxv hX rx
  generalize xv.length = q at *
  have e1 : ((q : Int) != 128) = true := by rw [bne_iff_ne]; omega
  generalize H.length = m at *
  go_enter Try.func8, Try.ntmps8
  go_wp2_with fail
  refine (AL.out _).mono ?_
  rintro e w1 ⟨rfl, hb1⟩
  go_wp2_with fail
  refine (GA.out _ (Hr.out.below hb1)).mono ?_
  rintro e w2 ⟨rfl, rfl⟩
  have f1 : w1.cell? ⟨b, off + p, none⟩ = some (.slice xa q xc) := by rw [hb1.cell (p := ⟨b, off + p, none⟩) hB]; exact cx
  go_wp2
  go_ret
  exact ⟨rfl, hb1⟩

theorem turns_walk (a : Option Addr) (len cap : Nat) (H : List Hd) (p : Int) (n y : Nat) (w : World) (hr : Rds w.heap.size w a len cap H) (hn8 : n < 256) (hy : y < 256) :
    Calls Try.prog 8 #[.slice a len cap, .int .i64 p, .int .u8 n, .int .u8 y] w fun e w' => e = .returned (.bool true) ∧ Below w.heap.size w w' := by
  obtain rfl := hr.long
  rcases Bool.eq_false_or_eq_true (big (lists H)) with h1 | h1
  · exact turns_out a cap H p n y w hr hn8 (.inl h1)
  · by_cases h : 0 ≤ p ∧ p < (H.length : Int)
    · obtain ⟨p', rfl⟩ := Int.eq_ofNat_of_zero_le h.1
      by_cases hl : ((lists H).getD p' []).length = 128
      · exact turns_main a cap H p' n y w hr h1 (by omega) hl hn8 hy
      · exact turns_short a cap H p' n y w hr h1 (by omega) hl hn8
    · exact turns_out a cap H p n y w hr hn8 (.inr ⟨h1, by omega⟩)
end Go.Proofs.Yticojepedpionaa.PW
