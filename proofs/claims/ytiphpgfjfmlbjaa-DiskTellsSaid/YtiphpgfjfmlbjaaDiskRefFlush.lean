/-
  Contracts of layer 4: a device flushed; the document's own.
-/
import Derived.Test.YtiphpgfjfmlbjaaDiskPut
import Derived.Test.YtiphpgfjfmlbjaaDiskDel
namespace Go.Proofs.Ytiphpgfjfmlbjaa.PW
open Go.RowKit
open DK (Dv)
set_option linter.unusedVariables false
set_option linter.unusedSimpArgs false

set_option maxRecDepth 100000 in
set_option maxHeartbeats 1000000 in
theorem refFlushed_any (a : Option Addr) (n c : Nat) (a' : Option Addr) (n' c' : Nat) (D : Dv) (w : World) (hr : DevAt w.heap.size w a n c a' n' c' D) (hf : Fit D) :
    Calls Try.prog 57 #[.agg #[.slice a n c, .slice a' n' c', .bool D.dead]] w (TheDev w (DK.rflushed D)) := by
  have CS : Hid (∀ w1, Below w.heap.size w w1 → ∀ m : Nat, m < n → Calls Try.prog 44 #[.agg #[.slice a n c, .slice a' n' c', .bool D.dead], .int .i64 (m : Int)] w1 (NewSl w1 (DK.seen D (m : Int)))) := fun w1 h m hm => refSeen_any a n c a' n' c' D m w1 (hr.here h) hf hm
  obtain ⟨dd, hdd⟩ : ∃ dd, dd = D.dead := ⟨_, rfl⟩
  have HD := Lib.hid hdd
  rw [← hdd] at CS ⊢
  clear hdd
  have Hn := Lib.hid hr.long
  have hs := hr.small.1
  unfold maxLen at hs
  have HF := Lib.hid hf
  clear hr hf
  go_enter Try.func57, Try.ntmps57
  go_wp2_with fail
  have hx1 := Bx.new w [.slice a n c, .slice a' n' c', .bool dd] 25
  have hx2 := Bx.new (w.alloc (.cells #[.slice a n c, .slice a' n' c', .bool dd] 25)) [.slice none 0 0, .slice none 0 0, .bool false] 25
  have hx3 := Bx.new ((w.alloc (.cells #[.slice a n c, .slice a' n' c', .bool dd] 25)).alloc (.cells #[.slice none 0 0, .slice none 0 0, .bool false] 25)) [.slice none 0 0, .slice none 0 0, .bool dd] 25
  have hx1' := (hx1.alloc (.cells #[.slice none 0 0, .slice none 0 0, .bool false] 25)).alloc (.cells #[.slice none 0 0, .slice none 0 0, .bool dd] 25)
  have hx2' := hx2.alloc (.cells #[.slice none 0 0, .slice none 0 0, .bool dd] 25)
  have hb1 : Below w.heap.size w (((w.alloc (.cells #[.slice a n c, .slice a' n' c', .bool dd] 25)).alloc (.cells #[.slice none 0 0, .slice none 0 0, .bool false] 25)).alloc (.cells #[.slice none 0 0, .slice none 0 0, .bool dd] 25)) :=
    (((Below.refl _ _).alloc (Nat.le_refl _) _).alloc (by simp) _).alloc (by simp; omega) _
  have hz1 : (((w.alloc (.cells #[.slice a n c, .slice a' n' c', .bool dd] 25)).alloc (.cells #[.slice none 0 0, .slice none 0 0, .bool false] 25)).alloc (.cells #[.slice none 0 0, .slice none 0 0, .bool dd] 25)).heap.size = w.heap.size + 3 := by simp
  simp only [World.size_alloc] at hx2' hx3
  clear hx1 hx2
  generalize ((w.alloc (.cells #[.slice a n c, .slice a' n' c', .bool dd] 25)).alloc (.cells #[.slice none 0 0, .slice none 0 0, .bool false] 25)).alloc (.cells #[.slice none 0 0, .slice none 0 0, .bool dd] 25) = W1 at *
  have HX1 := Lib.hid hx1'
  have HX2 := Lib.hid hx2'
  have HX3 := Lib.hid hx3
  have HB1 := Lib.hid hb1
  have HZ1 := Lib.hid hz1
  clear hx1' hx2' hx3 hb1 hz1
  go_loopw [4] (fun i wr => ∃ (k : Nat) (v : Value) (K : List Hd), k ≤ n ∧ i = .int .i64 k ∧ Hid (W1.grownBy wr (some (w.heap.size + 1 + 1))) ∧ Hid (Bx wr (w.heap.size + 1 + 1) [v, .slice none 0 0, .bool dd]) ∧ Hid (Grow W1.heap.size wr v K) ∧ Hid (K.length = k) ∧ Hid (lists K = (List.range k).map (fun (j : Nat) => DK.seen D (j : Int)))) (fun i _ => n - (intOf i).toNat)
  case atStart => exact ⟨0, _, [], by omega, rfl, World.grownBy.refl _ _, HX3.out, Grow.nil _ _, (rfl : ([] : List Hd).length = 0), (rfl : lists [] = (List.range 0).map (fun (j : Nat) => DK.seen D (j : Int)))⟩
  case round =>
    obtain ⟨k, v, K, hk, rfl, GB, B3, GR, HK, HL⟩ := hrel
    have kb : Hid (Below w.heap.size w wr) := HB1.out.trans (Below.ofGrown GB.out (by rw [HZ1.out]; omega) (fun b e => by injection e with e; omega))
    have hx0 := HX1.out.grown GB.out (by intro e; injection e with e; omega)
    have HXr := Lib.hid hx0
    have hlg0 : w.heap.size < wr.heap.size := hx0.lt
    obtain ⟨d0, d1, d2⟩ := hx0.three
    have hlg : w.heap.size + 1 + 1 < wr.heap.size := B3.out.lt
    have hfz : wr.drew.frozen? ⟨w.heap.size + 1 + 1, 0, none⟩ = false := B3.out.drew.frozen 0
    clear hx0
    by_cases hlt : k < n
    · have CS1 := Lib.hid (CS.out wr.drew kb.out.drew k hlt)
      have Hlt := Lib.hid hlt
      have i1 : (k : Int) < (n : Int) := by omega
      go_wp2_with fail
      refine wp_region_noPanic ?_
      refine PX.wp_region_x (fun w' => w'.cell? ⟨w.heap.size + 1 + 1, 0, none⟩ = some v ∧ w'.cell? ⟨w.heap.size, 0, none⟩ = some (.slice a n c) ∧ w'.cell? ⟨w.heap.size, 1, none⟩ = some (.slice a' n' c') ∧ w'.cell? ⟨w.heap.size, 2, none⟩ = some (.bool dd)) 8 (by kernel_rfl) ⟨B3.out.drew.three.1, HXr.out.drew.three⟩ (fun hHeld => ?_)
      refine PX.wpAnyX_take (i := 0) (oi := ?_) (v := ?_) ?_ (by kernel_rfl) (by kernel_rfl) (by kernel_rfl) (by kernel_rfl) (by kernel_rfl) (fun _ _ _ h => h) (Or.inl ⟨?_, ?_⟩) (by assumption) ?_
      rotate_left 2
      · simp only [List.getElem?_toArray, List.getElem?_cons_succ, List.getElem?_cons_zero]; rfl
      · rfl
      · intro w hSw; (try dsimp only at hSw); go_simp <;> with_reducible rfl
      (try simp only [Act.put, List.setIfInBounds_toArray, List.set_cons_zero, List.set_cons_succ])
      refine PX.wpAnyX_take (i := 1) (oi := ?_) (v := ?_) ?_ (by kernel_rfl) (by kernel_rfl) (by kernel_rfl) (by kernel_rfl) (by kernel_rfl) (fun _ _ _ h => h) (Or.inl ⟨?_, ?_⟩) (by assumption) ?_
      rotate_left 2
      · simp only [List.getElem?_toArray, List.getElem?_cons_succ, List.getElem?_cons_zero]; rfl
      · rfl
      · intro w hSw; (try dsimp only at hSw); go_simp <;> with_reducible rfl
      (try simp only [Act.put, List.setIfInBounds_toArray, List.set_cons_zero, List.set_cons_succ])
      refine PX.wpAnyX_take (i := 2) (oi := ?_) (v := ?_) ?_ (by kernel_rfl) (by kernel_rfl) (by kernel_rfl) (by kernel_rfl) (by kernel_rfl) (fun _ _ _ h => h) (Or.inl ⟨?_, ?_⟩) (by assumption) ?_
      rotate_left 2
      · simp only [List.getElem?_toArray, List.getElem?_cons_succ, List.getElem?_cons_zero]; rfl
      · rfl
      · intro w hSw; (try dsimp only at hSw); go_simp <;> with_reducible rfl
      (try simp only [Act.put, List.setIfInBounds_toArray, List.set_cons_zero, List.set_cons_succ])
      refine PX.wpAnyX_take (i := 3) (oi := ?_) (v := ?_) ?_ (by kernel_rfl) (by kernel_rfl) (by kernel_rfl) (by kernel_rfl) (by kernel_rfl) (fun _ _ _ h => h) (Or.inl ⟨?_, ?_⟩) (by assumption) ?_
      rotate_left 2
      · simp only [List.getElem?_toArray, List.getElem?_cons_succ, List.getElem?_cons_zero]; rfl
      · rfl
      · intro w hSw; (try dsimp only at hSw); go_simp <;> with_reducible rfl
      (try simp only [Act.put, List.setIfInBounds_toArray, List.set_cons_zero, List.set_cons_succ])
      refine PX.wpAnyX_one (i := 4) (o := ?_) (by kernel_rfl) ?_ (fun Kq hKq => ?_)
      rotate_left
      · simp only [List.getElem?_toArray, List.getElem?_cons_succ, List.getElem?_cons_zero]; rfl
      go_simp
      refine CS1.out.mono ?_
      rintro e w5 ⟨a5, n5, c5, rfl, it5, b5⟩
      obtain ⟨v6, w6, r6, G6, g6⟩ := (GR.out.drew).step (Nat.le_trans GB.out.size (Nat.le_refl _)) (by have h1 := HK.out; have h2 := HF.out.1; have h3 := Hn.out.1; have h4 := Hlt.out; omega) b5 it5
      have hn6 : (K ++ [(⟨a5, n5, c5, DK.seen D (k : Int)⟩ : Hd)]).length = k + 1 := by rw [List.length_append, HK.out]; rfl
      have hl6 : lists (K ++ [(⟨a5, n5, c5, DK.seen D (k : Int)⟩ : Hd)]) = (List.range (k + 1)).map (fun (j : Nat) => DK.seen D (j : Int)) := by rw [lists_append, HL.out, List.range_succ, List.map_append]; rfl
      generalize K ++ [(⟨a5, n5, c5, DK.seen D (k : Int)⟩ : Hd)] = K6 at *
      obtain ⟨g6b, cp6, rfl, hg6a, hg6b, hg6c, hg6d⟩ := G6.own.form (by rw [hn6]; omega)
      have hvb : ∀ e, v.ownBlock = some e → w.heap.size + 3 ≤ e := fun e he => by have := (GR.out.lt _ he).1; rw [HZ1.out] at this; exact this
      have hb6 : Hid (Bx w6 (w.heap.size + 1 + 1) [v, .slice none 0 0, .bool dd]) := ((B3.out.drew.here b5).alloc _).grown g6 (fun e => by have := hvb _ e; omega)
      have hd6 : Hid (Bx w6 w.heap.size [.slice a n c, .slice a' n' c', .bool dd]) := ((HXr.out.drew.here b5).alloc _).grown g6 (fun e => by have := hvb _ e; omega)
      have hf6 := hb6.out.frozen 0
      have HN6 := Lib.hid hn6
      have HLL6 := Lib.hid hl6
      have R6 := Lib.hid r6
      have G6' := Lib.hid G6
      have g6' := Lib.hid g6
      have B5 := Lib.hid b5
      clear hn6 hl6 hg6a hg6b hg6c hg6d r6 G6 g6 b5 it5 hvb
      go_wp2_with fail
      refine hKq.out _ _ (⟨(B3.out.drew.here B5.out).three.1, (HXr.out.drew.here B5.out).three⟩) (fun hHeld => ?_)
      clear hKq Kq
      (try simp only [Act.put, List.setIfInBounds_toArray, List.set_cons_zero, List.set_cons_succ])
      refine PX.wpAnyX_one (i := 5) (o := ?_) (by kernel_rfl) ?_ (fun Kq hKq => ?_)
      rotate_left
      · simp only [List.getElem?_toArray, List.getElem?_cons_succ, List.getElem?_cons_zero]; rfl
      go_simp
      refine hKq.out _ _ (⟨((B3.out.drew.here B5.out).alloc _).three.1, ((HXr.out.drew.here B5.out).alloc _).three⟩) (fun hHeld => ?_)
      clear hKq Kq
      (try simp only [Act.put, List.setIfInBounds_toArray, List.set_cons_zero, List.set_cons_succ])
      refine PX.wpAnyX_one (i := 6) (o := ?_) (by kernel_rfl) ?_ (fun Kq hKq => ?_)
      rotate_left
      · simp only [List.getElem?_toArray, List.getElem?_cons_succ, List.getElem?_cons_zero]; rfl
      refine PX.step_append_run _ _ _ _ (by rfl) (by rfl) R6.out ?_
      refine hKq.out _ _ (⟨hb6.out.three.1, hd6.out.three⟩) (fun hHeld => ?_)
      clear hKq Kq
      (try simp only [Act.put, List.setIfInBounds_toArray, List.set_cons_zero, List.set_cons_succ])
      refine PX.wpAnyX_one (i := 7) (o := ?_) (by kernel_rfl) ?_ (fun Kq hKq => ?_)
      rotate_left
      · simp only [List.getElem?_toArray, List.getElem?_cons_succ, List.getElem?_cons_zero]; rfl
      go_simp
      refine hKq.out _ _ (by assumption) (fun hHeld => ?_)
      clear hKq Kq
      (try simp only [Act.put, List.setIfInBounds_toArray, List.set_cons_zero, List.set_cons_succ])
      refine PX.wpAnyX_last (o := ?_) (by kernel_rfl) ?_ (fun Kq hKq => ?_)
      rotate_left
      · simp only [List.getElem?_toArray, List.getElem?_cons_succ, List.getElem?_cons_zero]; rfl
      go_simp
      refine hKq.out _ _ ?_
      clear hKq Kq
      (try simp only [Act.put, List.setIfInBounds_toArray, List.set_cons_zero, List.set_cons_succ])
      refine PX.wpAnyX_done (by kernel_rfl) ?_ _
      refine NoPanic.normal ?_
      go_wp2_with fail
      go_roundw
      case rel =>
        exact ⟨k + 1, _, K6, by have := Hlt.out; omega, by go_num, grownBy_setCell (grownBy_other (grownBy_alloc (grownBy_below (grownBy_drew GB.out) B5.out) _) g6'.out (fun b e => (GR.out.lt _ e).1)) 0 _, hb6.out.set 0 _,
          G6'.out.setCell ⟨w.heap.size + 1 + 1, 0, none⟩ (by show w.heap.size + 1 + 1 < _; rw [HZ1.out]; omega) _, HN6.out, HLL6.out⟩
      case measure => have := Hlt.out; simp [intOf]; omega
    · obtain rfl : k = n := by omega
      obtain ⟨va, vc, rfl, rv⟩ := GR.out.rds
      obtain ⟨t0, t1, t2⟩ := B3.out.three
      clear rv
      have hx2 : Bx wr (w.heap.size + 1) [.slice none 0 0, .slice none 0 0, .bool false] := HX2.out.grown GB.out (by intro e; injection e with e; omega)
      obtain ⟨q0, q1, q2⟩ := hx2.three
      have f0 := hx2.frozen 0
      have f1 := hx2.frozen 1
      have f2 := hx2.frozen 2
      clear hx2
      have fin : Hid (∀ u0 u1 u2, OwnDev w.heap.size (((wr.setCell ⟨w.heap.size + 1, 0, none⟩ u0).setCell ⟨w.heap.size + 1, 1, none⟩ u1).setCell ⟨w.heap.size + 1, 2, none⟩ u2) (.agg #[.slice va K.length vc, .slice none 0 0, .bool dd]) (DK.rflushed D) ∧ Below w.heap.size w (((wr.setCell ⟨w.heap.size + 1, 0, none⟩ u0).setCell ⟨w.heap.size + 1, 1, none⟩ u1).setCell ⟨w.heap.size + 1, 2, none⟩ u2)) := fun u0 u1 u2 => by
        have hg : w.heap.size + 1 < W1.heap.size := by rw [HZ1.out]; omega
        refine ⟨?_, ((kb.out.setCell (p := ⟨w.heap.size + 1, 0, none⟩) (by show w.heap.size ≤ w.heap.size + 1; omega) _).setCell (p := ⟨w.heap.size + 1, 1, none⟩) (by show w.heap.size ≤ w.heap.size + 1; omega) _).setCell (p := ⟨w.heap.size + 1, 2, none⟩) (by show w.heap.size ≤ w.heap.size + 1; omega) _⟩
        rw [HD.out]
        exact ⟨_, _, K, [], rfl, (((GR.out.setCell ⟨w.heap.size + 1, 0, none⟩ hg u0).setCell ⟨w.heap.size + 1, 1, none⟩ hg u1).setCell ⟨w.heap.size + 1, 2, none⟩ hg u2).mono (by rw [HZ1.out]; omega),
          GrowW.nil _ _, by rw [HL.out, Hn.out.1]; rfl, rfl, ⟨(fun _ _ h => by cases h), (fun _ _ _ _ _ h => by cases h), (fun _ h => nomatch h)⟩⟩
      generalize K.length = q at *
      go_wp2_with fail
      exact bodyPost_ret (v := .agg #[.slice va q vc, .slice none 0 0, .bool dd]) (by simp [results, Try.results57, go_sem, *]) rfl ⟨_, rfl, (fin.out _ _ _).1, (fin.out _ _ _).2⟩

def rflushDev (D : Dv) : Dv := if DK.fcode D = 0 then DK.rflushed D else DK.Dv.nil

set_option maxRecDepth 100000 in
set_option maxHeartbeats 1000000 in
theorem refFlush_any (a : Option Addr) (n c : Nat) (a' : Option Addr) (n' c' : Nat) (D : Dv) (w : World) (hr : DevAt w.heap.size w a n c a' n' c' D) (hf : Fit D) :
    Calls Try.prog 31 #[.agg #[.slice a n c, .slice a' n' c', .bool D.dead]] w (NewDev w (rflushDev D) (DK.fcode D)) := by
  have hb1 : Below w.heap.size w ((w.alloc (.cells #[.slice a n c, .slice a' n' c', .bool D.dead] 25)).alloc (.cells #[.slice none 0 0, .slice none 0 0, .bool false] 25)) := ((Below.refl _ _).alloc (Nat.le_refl _) _).alloc (by simp) _
  have bD := (Bx.new w [.slice a n c, .slice a' n' c', .bool D.dead] 25).alloc (.cells #[.slice none 0 0, .slice none 0 0, .bool false] 25)
  have bR := Bx.new (w.alloc (.cells #[.slice a n c, .slice a' n' c', .bool D.dead] 25)) [.slice none 0 0, .slice none 0 0, .bool false] 25
  simp only [World.size_alloc] at bR
  have CK := Lib.hid (may_any a n c a' n' c' D _ (hr.here hb1))
  have CT : Hid (∀ w1, Below w.heap.size w w1 → Calls Try.prog 57 #[.agg #[.slice a n c, .slice a' n' c', .bool D.dead]] w1 (TheDev w1 (DK.rflushed D))) := fun w1 h => refFlushed_any a n c a' n' c' D w1 (hr.here h) hf
  have HB := Lib.hid hb1
  have BD := Lib.hid bD
  have BR := Lib.hid bR
  clear hb1 bD bR hr hf
  rcases Bool.eq_false_or_eq_true (DK.may D) with hm | hm
  rotate_left
  · have hc : DK.fcode D = 8 := by simp [DK.fcode, hm]
    have hd : rflushDev D = DK.Dv.nil := by simp [rflushDev, hc]
    rw [hc, hd]
    rw [hm] at CK
    clear hc hd hm CT
    generalize D.dead = dd at *
    go_enter Try.func31, Try.ntmps31
    go_wp2_with fail
    refine CK.out.mono ?_
    rintro e w1 ⟨rfl, b1⟩
    have bR := BR.out.here b1
    have hB := thence HB.out b1 (Nat.le_refl _)
    obtain ⟨q0, q1, q2⟩ := bR.three
    have f0 := bR.frozen 0
    have f1 := bR.frozen 1
    have f2 := bR.frozen 2
    have FIN := Lib.hid (no_dev_end _ _ _ bR hB (Nat.le_succ _))
    clear hB b1 bR
    go_wp2_with fail
    obtain ⟨z0, z1, z2⟩ := FIN.out.1.three
    exact bodyPost_ret (v := .tuple #[noDev, .int .i64 8]) (by simp [results, Try.results31, go_sem, noDev, z0, z1, z2]) rfl ⟨_, rfl, OwnDev.nil _ _, FIN.out.2⟩
  rw [hm] at CK
  rcases Bool.eq_false_or_eq_true D.dead with hdd | hdd
  · have hc : DK.fcode D = 40 := by simp [DK.fcode, hm, hdd]
    have hd : rflushDev D = DK.Dv.nil := by simp [rflushDev, hc]
    rw [hc, hd]
    rw [hdd] at CK HB BD BR ⊢
    clear hc hd hm CT hdd
    go_enter Try.func31, Try.ntmps31
    go_wp2_with fail
    refine CK.out.mono ?_
    rintro e w1 ⟨rfl, b1⟩
    have bR := BR.out.here b1
    have hB := thence HB.out b1 (Nat.le_refl _)
    obtain ⟨d0, d1, d2⟩ := (BD.out.here b1).three
    obtain ⟨q0, q1, q2⟩ := bR.three
    have f0 := bR.frozen 0
    have f1 := bR.frozen 1
    have f2 := bR.frozen 2
    have FIN := Lib.hid (no_dev_end _ _ _ bR hB (Nat.le_succ _))
    clear hB b1 bR
    go_wp2_with fail
    obtain ⟨z0, z1, z2⟩ := FIN.out.1.three
    exact bodyPost_ret (v := .tuple #[noDev, .int .i64 40]) (by simp [results, Try.results31, go_sem, noDev, z0, z1, z2]) rfl ⟨_, rfl, OwnDev.nil _ _, FIN.out.2⟩
  have hc : DK.fcode D = 0 := by simp [DK.fcode, hm, hdd]
  have hd : rflushDev D = DK.rflushed D := by simp [rflushDev, hc]
  rw [hc, hd]
  have hrd : (DK.rflushed D).dead = false := hdd
  rw [hdd] at CK CT HB BD BR ⊢
  clear hc hd hm hdd
  go_enter Try.func31, Try.ntmps31
  go_wp2_with fail
  refine CK.out.mono ?_
  rintro e w1 ⟨rfl, b1⟩
  have bR := BR.out.here b1
  have hB := thence HB.out b1 (Nat.le_refl _)
  obtain ⟨d0, d1, d2⟩ := (BD.out.here b1).three
  have CT1 := Lib.hid (CT.out _ hB)
  have BR1 := Lib.hid bR
  have HB1 := Lib.hid hB
  clear hB b1 bR CK CT
  go_wp2_with fail
  refine CT1.out.mono ?_
  rintro e w2 ⟨v, rfl, od, b2⟩
  obtain ⟨x1, y1, u1, x2, y2, u2, hv, _⟩ := od.at
  have OD := Lib.hid od
  have hl := BR1.out.lt
  rw [hrd] at hv
  rw [hv] at OD
  rw [hv]
  clear od hv
  have bR := BR1.out.here b2
  obtain ⟨q0, q1, q2⟩ := bR.three
  have f0 := bR.frozen 0
  have f1 := bR.frozen 1
  have f2 := bR.frozen 2
  have BR2 := Lib.hid bR
  have HB2 := Lib.hid (thence HB1.out b2 (Nat.le_refl _))
  clear bR b2 hrd
  go_wp2_with fail
  have z := ((BR2.out.set 0 (.slice x1 y1 u1)).set 1 (.slice x2 y2 u2)).set 2 (.bool false)
  obtain ⟨z0, z1, z2⟩ := z.three
  exact bodyPost_ret (v := .tuple #[.agg #[.slice x1 y1 u1, .slice x2 y2 u2, .bool false], .int .i64 0]) (by simp [results, Try.results31, go_sem, z0, z1, z2]) rfl
    ⟨_, rfl, (((OD.out.setCell ⟨w.heap.size + 1, 0, none⟩ hl _).setCell ⟨w.heap.size + 1, 1, none⟩ hl _).setCell ⟨w.heap.size + 1, 2, none⟩ hl _).mono (by omega),
      ((HB2.out.setCell (p := ⟨w.heap.size + 1, 0, none⟩) (Nat.le_succ _) _).setCell (p := ⟨w.heap.size + 1, 1, none⟩) (Nat.le_succ _) _).setCell (p := ⟨w.heap.size + 1, 2, none⟩) (Nat.le_succ _) _⟩
end Go.Proofs.Ytiphpgfjfmlbjaa.PW
