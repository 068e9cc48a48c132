/-
  Contracts of layer 4: a device flushed; the document's own.
-/
import Derived.Test.YtnhfkfihlkbkfaaDiskPut
import Derived.Test.YtnhfkfihlkbkfaaDiskDel
namespace Go.Proofs.Ytnhfkfihlkbkfaa.PW
open Go.RowKit
open DK (Dv)
set_option linter.unusedVariables false
set_option maxRecDepth 100000
set_option linter.unusedSimpArgs false

set_option maxRecDepth 100000 in
set_option maxHeartbeats 1000000 in
theorem refFlushed_any (a : Option Addr) (n c : Nat) (a' : Option Addr) (n' c' : Nat) (D : Dv) (w : World) (hr : DevAt w.heap.size w a n c a' n' c' D) (hf : Fit D) :
    Calls Try.prog 87 #[.agg #[.slice a n c, .slice a' n' c', .bool D.dead]] w (TheDev w (DK.rflushed D)) := by
  have CS : Hid (∀ w1, Below w.heap.size w w1 → ∀ m : Nat, m < n → Calls Try.prog 89 #[.agg #[.slice a n c, .slice a' n' c', .bool D.dead], .int .i64 (m : Int)] w1 (NewSl w1 (DK.seen D (m : Int)))) := fun w1 h m hm => refSeen_any a n c a' n' c' D m w1 (hr.here h) hf hm
  obtain ⟨dd, hdd⟩ : ∃ dd, dd = D.dead := ⟨_, rfl⟩
  have HD := Lib.hid hdd
  rw [← hdd] at CS ⊢
  clear hdd
  have Hn := Lib.hid hr.long
  have hs := hr.small.1
  unfold maxLen at hs
  have HF := Lib.hid hf
  clear hr hf
  go_enter Try.func87, Try.ntmps87
  go_wp2_with fail
  have hx1 := Bx.new w [.slice a n c, .slice a' n' c', .bool dd] 37
  have hx2 := Bx.new (w.alloc (.cells #[.slice a n c, .slice a' n' c', .bool dd] 37)) [.slice none 0 0, .slice none 0 0, .bool false] 37
  have hx3 := Bx.new ((w.alloc (.cells #[.slice a n c, .slice a' n' c', .bool dd] 37)).alloc (.cells #[.slice none 0 0, .slice none 0 0, .bool false] 37)) [.slice none 0 0, .slice none 0 0, .bool dd] 37
  have hx1' := (hx1.alloc (.cells #[.slice none 0 0, .slice none 0 0, .bool false] 37)).alloc (.cells #[.slice none 0 0, .slice none 0 0, .bool dd] 37)
  have hx2' := hx2.alloc (.cells #[.slice none 0 0, .slice none 0 0, .bool dd] 37)
  have hb1 : Below w.heap.size w (((w.alloc (.cells #[.slice a n c, .slice a' n' c', .bool dd] 37)).alloc (.cells #[.slice none 0 0, .slice none 0 0, .bool false] 37)).alloc (.cells #[.slice none 0 0, .slice none 0 0, .bool dd] 37)) :=
    (((Below.refl _ _).alloc (Nat.le_refl _) _).alloc (by simp) _).alloc (by simp; omega) _
  have hz1 : (((w.alloc (.cells #[.slice a n c, .slice a' n' c', .bool dd] 37)).alloc (.cells #[.slice none 0 0, .slice none 0 0, .bool false] 37)).alloc (.cells #[.slice none 0 0, .slice none 0 0, .bool dd] 37)).heap.size = w.heap.size + 3 := by simp
  simp only [World.size_alloc] at hx2' hx3
  clear hx1 hx2
  generalize ((w.alloc (.cells #[.slice a n c, .slice a' n' c', .bool dd] 37)).alloc (.cells #[.slice none 0 0, .slice none 0 0, .bool false] 37)).alloc (.cells #[.slice none 0 0, .slice none 0 0, .bool dd] 37) = W1 at *
  have HX1 := Lib.hid hx1'
  have HX2 := Lib.hid hx2'
  have HX3 := Lib.hid hx3
  have HB1 := Lib.hid hb1
  have HZ1 := Lib.hid hz1
  clear hx1' hx2' hx3 hb1 hz1
  go_loopw [4] (fun i wr => ∃ (k : Nat) (v : Value) (K : List Hd), k ≤ n ∧ i = .int .i64 k ∧ Hid (W1.grownBy wr (some (w.heap.size + 1 + 1))) ∧ Hid (Bx wr (w.heap.size + 1 + 1) [v, .slice none 0 0, .bool dd]) ∧ Hid (Grow W1.heap.size wr v K) ∧ Hid (K.length = k) ∧ Hid (lists K = (List.range k).map (fun (j : Nat) => DK.seen D (j : Int)))) (fun i _ => n - (intOf i).toNat)
  case atStart => exact ⟨0, _, [], by omega, rfl, World.grownBy.refl _ _, HX3.out, Grow.nil _ _, (rfl : ([] : List Hd).length = 0), (rfl : lists [] = (List.range 0).map (fun (j : Nat) => DK.seen D (j : Int)))⟩
  case round =>
    obtain ⟨k, v, K, hk, rfl, GB, B3, GR, HK, HL⟩ := hrel
    have kb : Hid (Below w.heap.size w wr) := HB1.out.trans (Below.ofGrown GB.out (by rw [HZ1.out]; omega) (fun b e => by injection e with e; omega))
    have hx0 := HX1.out.grown GB.out (by intro e; injection e with e; omega)
    have HXr := Lib.hid hx0
    have hlg0 : w.heap.size < wr.heap.size := hx0.lt
    obtain ⟨d0, d1, d2⟩ := hx0.three
    have hlg : w.heap.size + 1 + 1 < wr.heap.size := B3.out.lt
    have hfz : wr.drew.frozen? ⟨w.heap.size + 1 + 1, 0, none⟩ = false := B3.out.drew.frozen 0
    clear hx0
    by_cases hlt : k < n
    · have CS1 := Lib.hid (CS.out wr.drew kb.out.drew k hlt)
      have Hlt := Lib.hid hlt
      have i1 : (k : Int) < (n : Int) := by omega
      go_wp2_with fail
      refine wp_region_noPanic ?_
      refine PX.wp_region_x (fun w' => w'.cell? ⟨w.heap.size + 1 + 1, 0, none⟩ = some v ∧ w'.cell? ⟨w.heap.size, 0, none⟩ = some (.slice a n c) ∧ w'.cell? ⟨w.heap.size, 1, none⟩ = some (.slice a' n' c') ∧ w'.cell? ⟨w.heap.size, 2, none⟩ = some (.bool dd)) 8 (by kernel_rfl) ⟨B3.out.drew.three.1, HXr.out.drew.three⟩ (fun hHeld => ?_)
      refine PX.wpAnyX_take (i := 0) (oi := ?_) (v := ?_) ?_ (by kernel_rfl) (by kernel_rfl) (by kernel_rfl) (by kernel_rfl) (by kernel_rfl) (fun _ _ _ h => h) (Or.inl ⟨?_, ?_⟩) (by assumption) ?_
      rotate_left 2
      · simp only [List.getElem?_toArray, List.getElem?_cons_succ, List.getElem?_cons_zero]; rfl
      · rfl
      · intro w hSw; (try dsimp only at hSw); go_simp <;> with_reducible rfl
      (try simp only [Act.put, List.setIfInBounds_toArray, List.set_cons_zero, List.set_cons_succ])
      refine PX.wpAnyX_take (i := 1) (oi := ?_) (v := ?_) ?_ (by kernel_rfl) (by kernel_rfl) (by kernel_rfl) (by kernel_rfl) (by kernel_rfl) (fun _ _ _ h => h) (Or.inl ⟨?_, ?_⟩) (by assumption) ?_
      rotate_left 2
      · simp only [List.getElem?_toArray, List.getElem?_cons_succ, List.getElem?_cons_zero]; rfl
      · rfl
      · intro w hSw; (try dsimp only at hSw); go_simp <;> with_reducible rfl
      (try simp only [Act.put, List.setIfInBounds_toArray, List.set_cons_zero, List.set_cons_succ])
      refine PX.wpAnyX_take (i := 2) (oi := ?_) (v := ?_) ?_ (by kernel_rfl) (by kernel_rfl) (by kernel_rfl) (by kernel_rfl) (by kernel_rfl) (fun _ _ _ h => h) (Or.inl ⟨?_, ?_⟩) (by assumption) ?_
      rotate_left 2
      · simp only [List.getElem?_toArray, List.getElem?_cons_succ, List.getElem?_cons_zero]; rfl
      · rfl
      · intro w hSw; (try dsimp only at hSw); go_simp <;> with_reducible rfl
      (try simp only [Act.put, List.setIfInBounds_toArray, List.set_cons_zero, List.set_cons_succ])
      refine PX.wpAnyX_take (i := 3) (oi := ?_) (v := ?_) ?_ (by kernel_rfl) (by kernel_rfl) (by kernel_rfl) (by kernel_rfl) (by kernel_rfl) (fun _ _ _ h => h) (Or.inl ⟨?_, ?_⟩) (by assumption) ?_
      rotate_left 2
      · simp only [List.getElem?_toArray, List.getElem?_cons_succ, List.getElem?_cons_zero]; rfl
      · rfl
      · intro w hSw; (try dsimp only at hSw); go_simp <;> with_reducible rfl
      (try simp only [Act.put, List.setIfInBounds_toArray, List.set_cons_zero, List.set_cons_succ])
      refine PX.wpAnyX_one (i := 4) (o := ?_) (by kernel_rfl) ?_ (fun Kq hKq => ?_)
      rotate_left
      · simp only [List.getElem?_toArray, List.getElem?_cons_succ, List.getElem?_cons_zero]; rfl
      go_simp
      refine CS1.out.mono ?_
      rintro e w5 ⟨a5, n5, c5, rfl, it5, b5⟩
      obtain ⟨v6, w6, r6, G6, g6⟩ := (GR.out.drew).step (Nat.le_trans GB.out.size (Nat.le_refl _)) (by have h1 := HK.out; have h2 := HF.out.1; have h3 := Hn.out.1; have h4 := Hlt.out; omega) b5 it5
      have hn6 : (K ++ [(⟨a5, n5, c5, DK.seen D (k : Int)⟩ : Hd)]).length = k + 1 := by rw [List.length_append, HK.out]; rfl
      have hl6 : lists (K ++ [(⟨a5, n5, c5, DK.seen D (k : Int)⟩ : Hd)]) = (List.range (k + 1)).map (fun (j : Nat) => DK.seen D (j : Int)) := by rw [lists_append, HL.out, List.range_succ, List.map_append]; rfl
      generalize K ++ [(⟨a5, n5, c5, DK.seen D (k : Int)⟩ : Hd)] = K6 at *
      obtain ⟨g6b, cp6, rfl, hg6a, hg6b, hg6c, hg6d⟩ := G6.own.form (by rw [hn6]; omega)
      have hvb : ∀ e, v.ownBlock = some e → w.heap.size + 3 ≤ e := fun e he => by have := (GR.out.lt _ he).1; rw [HZ1.out] at this; exact this
      have hb6 : Hid (Bx w6 (w.heap.size + 1 + 1) [v, .slice none 0 0, .bool dd]) := ((B3.out.drew.here b5).alloc _).grown g6 (fun e => by have := hvb _ e; omega)
      have hd6 : Hid (Bx w6 w.heap.size [.slice a n c, .slice a' n' c', .bool dd]) := ((HXr.out.drew.here b5).alloc _).grown g6 (fun e => by have := hvb _ e; omega)
      have hf6 := hb6.out.frozen 0
      have HN6 := Lib.hid hn6
      have HLL6 := Lib.hid hl6
      have R6 := Lib.hid r6
      have G6' := Lib.hid G6
      have g6' := Lib.hid g6
      have B5 := Lib.hid b5
      clear hn6 hl6 hg6a hg6b hg6c hg6d r6 G6 g6 b5 it5 hvb
      go_wp2_with fail
      refine hKq.out _ _ (⟨(B3.out.drew.here B5.out).three.1, (HXr.out.drew.here B5.out).three⟩) (fun hHeld => ?_)
      clear hKq Kq
      (try simp only [Act.put, List.setIfInBounds_toArray, List.set_cons_zero, List.set_cons_succ])
      refine PX.wpAnyX_one (i := 5) (o := ?_) (by kernel_rfl) ?_ (fun Kq hKq => ?_)
      rotate_left
      · simp only [List.getElem?_toArray, List.getElem?_cons_succ, List.getElem?_cons_zero]; rfl
      go_simp
      refine hKq.out _ _ (⟨((B3.out.drew.here B5.out).alloc _).three.1, ((HXr.out.drew.here B5.out).alloc _).three⟩) (fun hHeld => ?_)
      clear hKq Kq
      (try simp only [Act.put, List.setIfInBounds_toArray, List.set_cons_zero, List.set_cons_succ])
      refine PX.wpAnyX_one (i := 6) (o := ?_) (by kernel_rfl) ?_ (fun Kq hKq => ?_)
      rotate_left
      · simp only [List.getElem?_toArray, List.getElem?_cons_succ, List.getElem?_cons_zero]; rfl
      refine PX.step_append_run _ _ _ _ (by rfl) (by rfl) R6.out ?_
      refine hKq.out _ _ (⟨hb6.out.three.1, hd6.out.three⟩) (fun hHeld => ?_)
      clear hKq Kq
      (try simp only [Act.put, List.setIfInBounds_toArray, List.set_cons_zero, List.set_cons_succ])
      refine PX.wpAnyX_one (i := 7) (o := ?_) (by kernel_rfl) ?_ (fun Kq hKq => ?_)
      rotate_left
      · simp only [List.getElem?_toArray, List.getElem?_cons_succ, List.getElem?_cons_zero]; rfl
      go_simp
      refine hKq.out _ _ (by assumption) (fun hHeld => ?_)
      clear hKq Kq
      (try simp only [Act.put, List.setIfInBounds_toArray, List.set_cons_zero, List.set_cons_succ])
      refine PX.wpAnyX_last (o := ?_) (by kernel_rfl) ?_ (fun Kq hKq => ?_)
      rotate_left
      · simp only [List.getElem?_toArray, List.getElem?_cons_succ, List.getElem?_cons_zero]; rfl
      go_simp
      refine hKq.out _ _ ?_
      clear hKq Kq
      (try simp only [Act.put, List.setIfInBounds_toArray, List.set_cons_zero, List.set_cons_succ])
      refine PX.wpAnyX_done (by kernel_rfl) ?_ _
      refine NoPanic.normal ?_
      go_wp2_with fail
      go_roundw
      case rel =>
        exact ⟨k + 1, _, K6, by have := Hlt.out; omega, by go_num, grownBy_setCell (grownBy_other (grownBy_alloc (grownBy_below (grownBy_drew GB.out) B5.out) _) g6'.out (fun b e => (GR.out.lt _ e).1)) 0 _, hb6.out.set 0 _,
          G6'.out.setCell ⟨w.heap.size + 1 + 1, 0, none⟩ (by show w.heap.size + 1 + 1 < _; rw [HZ1.out]; omega) _, HN6.out, HLL6.out⟩
      case measure => have := Hlt.out; simp [intOf]; omega
    · obtain rfl : k = n := by omega
      obtain ⟨va, vc, rfl, rv⟩ := GR.out.rds
      obtain ⟨t0, t1, t2⟩ := B3.out.three
      clear rv
      have hx2 : Bx wr (w.heap.size + 1) [.slice none 0 0, .slice none 0 0, .bool false] := HX2.out.grown GB.out (by intro e; injection e with e; omega)
      obtain ⟨q0, q1, q2⟩ := hx2.three
      have f0 := hx2.frozen 0
      have f1 := hx2.frozen 1
      have f2 := hx2.frozen 2
      clear hx2
      have fin : Hid (∀ u0 u1 u2, OwnDev w.heap.size (((wr.setCell ⟨w.heap.size + 1, 0, none⟩ u0).setCell ⟨w.heap.size + 1, 1, none⟩ u1).setCell ⟨w.heap.size + 1, 2, none⟩ u2) (.agg #[.slice va K.length vc, .slice none 0 0, .bool dd]) (DK.rflushed D) ∧ Below w.heap.size w (((wr.setCell ⟨w.heap.size + 1, 0, none⟩ u0).setCell ⟨w.heap.size + 1, 1, none⟩ u1).setCell ⟨w.heap.size + 1, 2, none⟩ u2)) := fun u0 u1 u2 => by
        have hg : w.heap.size + 1 < W1.heap.size := by rw [HZ1.out]; omega
        refine ⟨?_, ((kb.out.setCell (p := ⟨w.heap.size + 1, 0, none⟩) (by show w.heap.size ≤ w.heap.size + 1; omega) _).setCell (p := ⟨w.heap.size + 1, 1, none⟩) (by show w.heap.size ≤ w.heap.size + 1; omega) _).setCell (p := ⟨w.heap.size + 1, 2, none⟩) (by show w.heap.size ≤ w.heap.size + 1; omega) _⟩
        rw [HD.out]
        exact ⟨_, _, K, [], rfl, (((GR.out.setCell ⟨w.heap.size + 1, 0, none⟩ hg u0).setCell ⟨w.heap.size + 1, 1, none⟩ hg u1).setCell ⟨w.heap.size + 1, 2, none⟩ hg u2).mono (by rw [HZ1.out]; omega),
          GrowW.nil _ _, by rw [HL.out, Hn.out.1]; rfl, rfl, ⟨(fun _ _ h => by cases h), (fun _ _ _ _ _ h => by cases h), (fun _ h => nomatch h)⟩⟩
      generalize K.length = q at *
      go_wp2_with fail
      exact bodyPost_ret (v := .agg #[.slice va q vc, .slice none 0 0, .bool dd]) (by simp [results, Try.results87, go_sem, *]) rfl ⟨_, rfl, (fin.out _ _ _).1, (fin.out _ _ _).2⟩

def rflushDev (D : Dv) : Dv := if DK.fcode D = 0 then DK.rflushed D else DK.Dv.nil

end Go.Proofs.Ytnhfkfihlkbkfaa.PW
