/-
  Contracts of layer 4: a device in new memory, the document's own.
-/
import Derived.Test.YtnhfkfihlkbkfaaDiskTwin
import Derived.Test.YtnhfkfihlkbkfaaKinds
import Derived.Test.YtnhfkfihlkbkfaaHoist
import Derived.Outline
namespace Go.Proofs.Ytnhfkfihlkbkfaa.PW
open Go.RowKit
open DK (Dv)
set_option linter.unusedVariables false
set_option maxRecDepth 100000
set_option linter.unusedSimpArgs false

set_option maxRecDepth 100000 in
set_option maxHeartbeats 1000000 in
theorem refTwin_any (a : Option Addr) (n c : Nat) (a' : Option Addr) (n' c' : Nat) (D : Dv) (w : World) (hr : DevAt w.heap.size w a n c a' n' c' D) (hf : Fit D) :
    Calls Try.prog 51 #[.agg #[.slice a n c, .slice a' n' c', .bool D.dead]] w (TheDev w D) := by
  obtain ⟨dd, hdd⟩ : ∃ dd, dd = D.dead := ⟨_, rfl⟩
  have HD := Lib.hid hdd
  rw [← hdd]
  clear hdd
  have Hn := Lib.hid hr.long
  have hs := hr.small.1
  have hs' := hr.small.2
  unfold maxLen at hs hs'
  have Hr := Lib.hid hr
  have HF := Lib.hid hf
  clear hr hf
  go_enter Try.func51, Try.ntmps51
  go_wp2_with fail
  have hx1 := Bx.new w [.slice a n c, .slice a' n' c', .bool dd] 37
  have hx2 := Bx.new (w.alloc (.cells #[.slice a n c, .slice a' n' c', .bool dd] 37)) [.slice none 0 0, .slice none 0 0, .bool false] 37
  have hx3 := Bx.new ((w.alloc (.cells #[.slice a n c, .slice a' n' c', .bool dd] 37)).alloc (.cells #[.slice none 0 0, .slice none 0 0, .bool false] 37)) [.slice none 0 0, .slice none 0 0, .bool dd] 37
  have hx1' := (hx1.alloc (.cells #[.slice none 0 0, .slice none 0 0, .bool false] 37)).alloc (.cells #[.slice none 0 0, .slice none 0 0, .bool dd] 37)
  have hx2' := hx2.alloc (.cells #[.slice none 0 0, .slice none 0 0, .bool dd] 37)
  have hb1 : Below w.heap.size w (((w.alloc (.cells #[.slice a n c, .slice a' n' c', .bool dd] 37)).alloc (.cells #[.slice none 0 0, .slice none 0 0, .bool false] 37)).alloc (.cells #[.slice none 0 0, .slice none 0 0, .bool dd] 37)) :=
    (((Below.refl _ _).alloc (Nat.le_refl _) _).alloc (by simp) _).alloc (by simp; omega) _
  have hz1 : (((w.alloc (.cells #[.slice a n c, .slice a' n' c', .bool dd] 37)).alloc (.cells #[.slice none 0 0, .slice none 0 0, .bool false] 37)).alloc (.cells #[.slice none 0 0, .slice none 0 0, .bool dd] 37)).heap.size = w.heap.size + 3 := by simp
  simp only [World.size_alloc] at hx2' hx3
  clear hx1 hx2
  generalize ((w.alloc (.cells #[.slice a n c, .slice a' n' c', .bool dd] 37)).alloc (.cells #[.slice none 0 0, .slice none 0 0, .bool false] 37)).alloc (.cells #[.slice none 0 0, .slice none 0 0, .bool dd] 37) = W1 at *
  have HX1 := Lib.hid hx1'
  have HX2 := Lib.hid hx2'
  have HX3 := Lib.hid hx3
  have HB1 := Lib.hid hb1
  have HZ1 := Lib.hid hz1
  clear hx1' hx2' hx3 hb1 hz1
  go_loopw [4] (fun i wr => ∃ (k : Nat) (v : Value) (K : List Hd), k ≤ n ∧ i = .int .i64 k ∧ Hid (W1.grownBy wr (some (w.heap.size + 1 + 1))) ∧ Hid (Bx wr (w.heap.size + 1 + 1) [v, .slice none 0 0, .bool dd]) ∧ Hid (Grow W1.heap.size wr v K) ∧ Hid (K.length = k) ∧ Hid (lists K = D.bs.take k)) (fun i _ => n - (intOf i).toNat)
  case atStart => exact ⟨0, _, [], by omega, rfl, World.grownBy.refl _ _, HX3.out, Grow.nil _ _, (rfl : ([] : List Hd).length = 0), (rfl : lists [] = D.bs.take 0)⟩
  case round =>
    obtain ⟨k, v, K, hk, rfl, GB, B3, GR, HK, HL⟩ := hrel
    have kb : Hid (Below w.heap.size w wr) := HB1.out.trans (Below.ofGrown GB.out (by rw [HZ1.out]; omega) (fun b e => by injection e with e; omega))
    by_cases hlt : k < n
    · obtain ⟨b, off, xa, xlen, xcap, xl, rfl, hbB, hx, hcell, hxr⟩ := (Hr.out.below kb.out).at k hlt
      have hx1000 : xl.length ≤ 100000 := by rw [← hx]; exact HF.out.2.2.1 _ (mem_getD (by rw [← Hn.out.1]; exact hlt))
      have hx0 := HX1.out.grown GB.out (by intro e; injection e with e; omega)
      have HXr := Lib.hid hx0
      have hlg0 : w.heap.size < wr.heap.size := hx0.lt
      obtain ⟨d0, d1, d2⟩ := hx0.three
      have hlg : w.heap.size + 1 + 1 < wr.heap.size := B3.out.lt
      have hfz : wr.drew.frozen? ⟨w.heap.size + 1 + 1, 0, none⟩ = false := B3.out.drew.frozen 0
      have i0 : (0 : Int) ≤ (k : Int) := Int.natCast_nonneg _
      have i1 : (k : Int) < (n : Int) := by omega
      have hbr : b < wr.heap.size := Nat.lt_trans hbB hlg0
      -- the two appends
      obtain ⟨v5, w5, r5, o5, g5, q5⟩ := append_bytes wr.drew wr.drew.heap.size _ [] (own_nil _ _) w.heap.size xa xlen xcap xl (hxr.drewN 1) (by simp; omega) (Nat.le_refl _)
      rw [List.nil_append] at o5
      have b5 : Below wr.drew.heap.size wr.drew w5 := (Below.refl _ _).grown g5 (Nat.le_refl _) (fun b e => by cases e)
      obtain ⟨a5, c5, rfl, rd5⟩ := o5.rd hxr.byt
      obtain ⟨v6, w6, r6, G6, g6⟩ := (GR.out.drew).step (Nat.le_trans GB.out.size (Nat.le_refl _)) (by rw [HK.out]; have := HF.out.1; have := Hn.out.1; omega) b5 (Item.own o5 rd5)
      have hn6 : (K ++ [(⟨a5, xl.length, c5, xl⟩ : Hd)]).length = k + 1 := by rw [List.length_append, HK.out]; rfl
      have hl6 : lists (K ++ [(⟨a5, xl.length, c5, xl⟩ : Hd)]) = D.bs.take (k + 1) := (by
        rw [lists_append, HL.out, List.take_add_one, List.getElem?_eq_getElem (by rw [← Hn.out.1]; exact hlt)]
        have : D.bs[k]'(by rw [← Hn.out.1]; exact hlt) = xl := by rw [← hx]; simp [List.getD, show k < D.bs.length by rw [← Hn.out.1]; exact hlt]
        rw [this]; rfl)
      generalize K ++ [(⟨a5, xl.length, c5, xl⟩ : Hd)] = K6 at *
      obtain ⟨g6b, cp6, rfl, hg6a, hg6b, hg6c, hg6d⟩ := G6.own.form (by rw [hn6]; omega)
      have hvb : ∀ e, v.ownBlock = some e → w.heap.size + 3 ≤ e := fun e he => by have := (GR.out.lt _ he).1; rw [HZ1.out] at this; exact this
      have hb6 : Hid (Bx w6 (w.heap.size + 1 + 1) [v, .slice none 0 0, .bool dd]) := ((B3.out.drew.here b5).alloc _).grown g6 (fun e => by have := hvb _ e; omega)
      have hd6 : Hid (Bx w6 w.heap.size [.slice (some ⟨b, off, none⟩) n c, .slice a' n' c', .bool dd]) := ((HXr.out.drew.here b5).alloc _).grown g6 (fun e => by have := hvb _ e; omega)
      have hf6 := hb6.out.frozen 0
      have HC5 : Hid (w5.cell? ⟨b, off + k, none⟩ = some (.slice xa xlen xcap)) := by show _ = _; rw [b5.cell (p := ⟨b, off + k, none⟩) hbr]; exact hcell
      have HC6 : Hid ((w5.alloc (.cells #[.slice a5 xl.length c5] 31)).cell? ⟨b, off + k, none⟩ = some (.slice xa xlen xcap)) := by
        show _ = _
        rw [((b5.alloc b5.size (.cells #[.slice a5 xl.length c5] 31)).cell (p := ⟨b, off + k, none⟩) hbr)]; exact hcell
      have HC7 : Hid (w6.cell? ⟨b, off + k, none⟩ = some (.slice xa xlen xcap)) := by
        show _ = _
        rw [World.grownBy.cell_far g6 ⟨b, off + k, none⟩ (Nat.lt_of_lt_of_le hbr (b5.alloc b5.size (.cells #[.slice a5 xl.length c5] 31)).size) (fun e => by have h4 : w.heap.size + 3 ≤ b := hvb _ e.symm; omega)]
        exact HC6.out
      obtain rfl := hxr.long
      have HN6 := Lib.hid hn6
      have HL6 := Lib.hid hl6
      have R5 := Lib.hid r5
      have R6 := Lib.hid r6
      have G6' := Lib.hid G6
      have g6' := Lib.hid g6
      have B5 := Lib.hid b5
      have Hlt := Lib.hid hlt
      clear hn6 hl6 hg6a hg6b hg6c hg6d r5 r6 G6 g6 b5 o5 rd5 g5 q5 hxr hx hx1000 hx0 hvb
      go_wp2_with fail
      refine wp_region_noPanic ?_
      refine PX.wp_region_x (fun w' => w'.cell? ⟨w.heap.size + 1 + 1, 0, none⟩ = some v ∧ w'.cell? ⟨w.heap.size, 0, none⟩ = some (.slice (some ⟨b, off, none⟩) n c) ∧ w'.cell? ⟨b, off + k, none⟩ = some (.slice xa xl.length xcap)) 12 (by kernel_rfl) ⟨B3.out.drew.three.1, HXr.out.drew.three.1, hcell⟩ (fun hHeld => ?_)
      refine PX.wpAnyX_take (i := 0) (oi := ?_) (v := ?_) ?_ (by kernel_rfl) (by kernel_rfl) (by kernel_rfl) (by kernel_rfl) (by kernel_rfl) (fun _ _ _ h => h) (Or.inl ⟨?_, ?_⟩) (by assumption) ?_
      rotate_left 2
      · simp only [List.getElem?_toArray, List.getElem?_cons_succ, List.getElem?_cons_zero]; rfl
      · rfl
      · intro w hSw; (try dsimp only at hSw); go_simp <;> with_reducible rfl
      (try simp only [Act.put, List.setIfInBounds_toArray, List.set_cons_zero, List.set_cons_succ])
      refine PX.wpAnyX_take (i := 1) (oi := ?_) (v := ?_) ?_ (by kernel_rfl) (by kernel_rfl) (by kernel_rfl) (by kernel_rfl) (by kernel_rfl) (fun _ _ _ h => h) (Or.inl ⟨?_, ?_⟩) (by assumption) ?_
      rotate_left 2
      · simp only [List.getElem?_toArray, List.getElem?_cons_succ, List.getElem?_cons_zero]; rfl
      · rfl
      · intro w hSw; (try dsimp only at hSw); go_simp <;> with_reducible rfl
      (try simp only [Act.put, List.setIfInBounds_toArray, List.set_cons_zero, List.set_cons_succ])
      refine PX.wpAnyX_take (i := 2) (oi := ?_) (v := ?_) ?_ (by kernel_rfl) (by kernel_rfl) (by kernel_rfl) (by kernel_rfl) (by kernel_rfl) (fun _ _ _ h => h) (Or.inl ⟨?_, ?_⟩) (by assumption) ?_
      rotate_left 2
      · simp only [List.getElem?_toArray, List.getElem?_cons_succ, List.getElem?_cons_zero]; rfl
      · rfl
      · intro w hSw; (try dsimp only at hSw); go_simp <;> with_reducible rfl
      (try simp only [Act.put, List.setIfInBounds_toArray, List.set_cons_zero, List.set_cons_succ])
      refine PX.wpAnyX_take (i := 3) (oi := ?_) (v := ?_) ?_ (by kernel_rfl) (by kernel_rfl) (by kernel_rfl) (by kernel_rfl) (by kernel_rfl) (fun _ _ _ h => h) (Or.inl ⟨?_, ?_⟩) (by assumption) ?_
      rotate_left 2
      · simp only [List.getElem?_toArray, List.getElem?_cons_succ, List.getElem?_cons_zero]; rfl
      · rfl
      · intro w hSw; (try dsimp only at hSw); go_simp <;> with_reducible rfl
      (try simp only [Act.put, List.setIfInBounds_toArray, List.set_cons_zero, List.set_cons_succ])
      refine PX.wpAnyX_take (i := 4) (oi := ?_) (v := ?_) ?_ (by kernel_rfl) (by kernel_rfl) (by kernel_rfl) (by kernel_rfl) (by kernel_rfl) (fun _ _ _ h => h) (Or.inl ⟨?_, ?_⟩) (by assumption) ?_
      rotate_left 2
      · simp only [List.getElem?_toArray, List.getElem?_cons_succ, List.getElem?_cons_zero]; rfl
      · rfl
      · intro w hSw; (try dsimp only at hSw); go_simp <;> with_reducible rfl
      (try simp only [Act.put, List.setIfInBounds_toArray, List.set_cons_zero, List.set_cons_succ])
      refine PX.wpAnyX_take (i := 5) (oi := ?_) (v := ?_) ?_ (by kernel_rfl) (by kernel_rfl) (by kernel_rfl) (by kernel_rfl) (by kernel_rfl) (fun _ _ _ h => h) (Or.inl ⟨?_, ?_⟩) (by assumption) ?_
      rotate_left 2
      · simp only [List.getElem?_toArray, List.getElem?_cons_succ, List.getElem?_cons_zero]; rfl
      · rfl
      · intro w hSw; (try dsimp only at hSw); go_simp <;> with_reducible rfl
      (try simp only [Act.put, List.setIfInBounds_toArray, List.set_cons_zero, List.set_cons_succ])
      refine PX.wpAnyX_take (i := 6) (oi := ?_) (v := ?_) ?_ (by kernel_rfl) (by kernel_rfl) (by kernel_rfl) (by kernel_rfl) (by kernel_rfl) (fun _ _ _ h => h) (Or.inl ⟨?_, ?_⟩) (by assumption) ?_
      rotate_left 2
      · simp only [List.getElem?_toArray, List.getElem?_cons_succ, List.getElem?_cons_zero]; rfl
      · rfl
      · intro w hSw; (try dsimp only at hSw); go_simp <;> with_reducible rfl
      (try simp only [Act.put, List.setIfInBounds_toArray, List.set_cons_zero, List.set_cons_succ])
      refine PX.wpAnyX_take (i := 7) (oi := ?_) (v := ?_) ?_ (by kernel_rfl) (by kernel_rfl) (by kernel_rfl) (by kernel_rfl) (by kernel_rfl) (fun _ _ _ h => h) (Or.inl ⟨?_, ?_⟩) (by assumption) ?_
      rotate_left 2
      · simp only [List.getElem?_toArray, List.getElem?_cons_succ, List.getElem?_cons_zero]; rfl
      · rfl
      · intro w hSw; (try dsimp only at hSw); go_simp <;> with_reducible rfl
      (try simp only [Act.put, List.setIfInBounds_toArray, List.set_cons_zero, List.set_cons_succ])
      refine PX.wpAnyX_one (i := 8) (o := ?_) (by kernel_rfl) ?_ (fun Kq hKq => ?_)
      rotate_left
      · simp only [List.getElem?_toArray, List.getElem?_cons_succ, List.getElem?_cons_zero]; rfl
      refine PX.step_append_run _ _ _ _ (by rfl) (by rfl) R5.out ?_
      refine hKq.out _ _ (⟨(B3.out.drew.here B5.out).three.1, (HXr.out.drew.here B5.out).three.1, HC5.out⟩) (fun hHeld => ?_)
      clear hKq Kq
      (try simp only [Act.put, List.setIfInBounds_toArray, List.set_cons_zero, List.set_cons_succ])
      refine PX.wpAnyX_one (i := 9) (o := ?_) (by kernel_rfl) ?_ (fun Kq hKq => ?_)
      rotate_left
      · simp only [List.getElem?_toArray, List.getElem?_cons_succ, List.getElem?_cons_zero]; rfl
      go_simp
      refine hKq.out _ _ (⟨((B3.out.drew.here B5.out).alloc _).three.1, ((HXr.out.drew.here B5.out).alloc _).three.1, HC6.out⟩) (fun hHeld => ?_)
      clear hKq Kq
      (try simp only [Act.put, List.setIfInBounds_toArray, List.set_cons_zero, List.set_cons_succ])
      refine PX.wpAnyX_one (i := 10) (o := ?_) (by kernel_rfl) ?_ (fun Kq hKq => ?_)
      rotate_left
      · simp only [List.getElem?_toArray, List.getElem?_cons_succ, List.getElem?_cons_zero]; rfl
      refine PX.step_append_run _ _ _ _ (by rfl) (by rfl) R6.out ?_
      refine hKq.out _ _ (⟨hb6.out.three.1, hd6.out.three.1, HC7.out⟩) (fun hHeld => ?_)
      clear hKq Kq
      (try simp only [Act.put, List.setIfInBounds_toArray, List.set_cons_zero, List.set_cons_succ])
      refine PX.wpAnyX_one (i := 11) (o := ?_) (by kernel_rfl) ?_ (fun Kq hKq => ?_)
      rotate_left
      · simp only [List.getElem?_toArray, List.getElem?_cons_succ, List.getElem?_cons_zero]; rfl
      go_simp
      refine hKq.out _ _ (by assumption) (fun hHeld => ?_)
      clear hKq Kq
      (try simp only [Act.put, List.setIfInBounds_toArray, List.set_cons_zero, List.set_cons_succ])
      refine PX.wpAnyX_last (o := ?_) (by kernel_rfl) ?_ (fun Kq hKq => ?_)
      rotate_left
      · simp only [List.getElem?_toArray, List.getElem?_cons_succ, List.getElem?_cons_zero]; rfl
      go_simp
      refine hKq.out _ _ ?_
      clear hKq Kq
      (try simp only [Act.put, List.setIfInBounds_toArray, List.set_cons_zero, List.set_cons_succ])
      refine PX.wpAnyX_done (by kernel_rfl) ?_ _
      refine NoPanic.normal ?_
      go_wp2_with fail
      go_roundw
      case rel =>
        exact ⟨k + 1, _, K6, by have := Hlt.out; omega, by go_num, grownBy_setCell (grownBy_other (grownBy_alloc (grownBy_below (grownBy_drew GB.out) B5.out) _) g6'.out (fun b e => (GR.out.lt _ e).1)) 0 _, hb6.out.set 0 _,
          G6'.out.setCell ⟨w.heap.size + 1 + 1, 0, none⟩ (by show w.heap.size + 1 + 1 < _; rw [HZ1.out]; omega) _, HN6.out, HL6.out⟩
      case measure => have := Hlt.out; simp [intOf]; omega
    · obtain rfl : k = n := by omega
      have hlg0 : w.heap.size < wr.heap.size := (HX1.out.grown GB.out (by intro e; injection e with e; omega)).lt
      have hx1 := HX1.out.grown GB.out (by intro e; injection e with e; omega)
      obtain ⟨d0, d1, d2⟩ := hx1.three
      have HX1' := Lib.hid hx1
      have HLall : Hid (lists K = D.bs) := by show _ = _; rw [HL.out, List.take_of_length_le (by rw [← Hn.out.1]; exact Nat.le_refl _)]
      clear hx1 hlt HL
      go_wp2_with fail
      obtain ⟨W2, hW2⟩ : ∃ W2 : World, W2 = wr := ⟨_, rfl⟩
      subst hW2
      clear d0 d1 d2
      have HZ2 : Hid (W1.heap.size ≤ W2.heap.size) := GB.out.size
      go_loopw [6] (fun i wr => ∃ (m : Nat) (v' : Value) (K' : List Wr), m ≤ n' ∧ i = .int .i64 m ∧ Hid (W2.grownBy wr (some (w.heap.size + 1 + 1))) ∧ Hid (Bx wr (w.heap.size + 1 + 1) [v, v', .bool dd]) ∧ Hid (GrowW W2.heap.size wr v' K') ∧ Hid (K'.length = m) ∧ Hid (wlist K' = D.ws.take m)) (fun i _ => n' - (intOf i).toNat)
      case atStart => exact ⟨0, _, [], by omega, rfl, World.grownBy.refl _ _, B3.out, GrowW.nil _ _, (rfl : ([] : List Wr).length = 0), (rfl : wlist [] = D.ws.take 0)⟩
      case round =>
        obtain ⟨m, v', K', hm, rfl, GB2, B32, GR2, HK2, HL2⟩ := hrel
        have kb2 : Hid (Below w.heap.size w wr) := kb.out.trans (Below.ofGrown GB2.out (by have := HZ2.out; have := HZ1.out; omega) (fun b e => by injection e with e; omega))
        by_cases hlt : m < n'
        · obtain ⟨b, off, z, xa, xlen, xcap, xl, rfl, hbB, hx, hcell, hcell2, hxr⟩ := (Hr.out.below kb2.out).wat m hlt
          have hx1000 : xl.length ≤ 100000 := (by
            have := HF.out.2.2.2 _ (mem_getD (d := (0, [])) (k := m) (by rw [← Hn.out.2]; exact hlt))
            rw [hx] at this; exact this)
          have hwz : w.heap.size ≤ wr.heap.size := kb2.out.size
          have hx0 := HX1'.out.grown GB2.out (by intro e; injection e with e; omega)
          have HXr := Lib.hid hx0
          have hlg0 : w.heap.size < wr.heap.size := hx0.lt
          obtain ⟨d0, d1, d2⟩ := hx0.three
          have hlg : w.heap.size + 1 + 1 < wr.heap.size := B32.out.lt
          have hfz : wr.drew.frozen? ⟨w.heap.size + 1 + 1, 1, none⟩ = false := B32.out.drew.frozen 1
          have i0 : (0 : Int) ≤ (m : Int) := Int.natCast_nonneg _
          have i1 : (m : Int) < (n' : Int) := by omega
          have hbr : b < wr.heap.size := Nat.lt_trans hbB hlg0
          obtain ⟨v5, w5, r5, o5, g5, q5⟩ := append_bytes wr.drew wr.drew.heap.size _ [] (own_nil _ _) w.heap.size xa xlen xcap xl (hxr.drewN 1) (by simp; omega) (Nat.le_refl _)
          rw [List.nil_append] at o5
          have b5 : Below wr.drew.heap.size wr.drew w5 := (Below.refl _ _).grown g5 (Nat.le_refl _) (fun b e => by cases e)
          obtain ⟨a5, c5, rfl, rd5⟩ := o5.rd hxr.byt
          obtain ⟨v6, w6, r6, G6, g6⟩ := (GR2.out.drew).step (Nat.le_trans GB2.out.size (Nat.le_refl _)) (by rw [HK2.out]; have := HF.out.2.1; have := Hn.out.2; omega) b5 z (Item.own o5 rd5)
          have hn6 : (K' ++ [(⟨z, ⟨a5, xl.length, c5, xl⟩⟩ : Wr)]).length = m + 1 := by rw [List.length_append, HK2.out]; rfl
          have hl6 : wlist (K' ++ [(⟨z, ⟨a5, xl.length, c5, xl⟩⟩ : Wr)]) = D.ws.take (m + 1) := (by
            rw [wlist_append, HL2.out, List.take_add_one, List.getElem?_eq_getElem (by rw [← Hn.out.2]; exact hlt)]
            have : D.ws[m]'(by rw [← Hn.out.2]; exact hlt) = (z, xl) := by rw [← hx]; simp [List.getD, show m < D.ws.length by rw [← Hn.out.2]; exact hlt]
            rw [this]; rfl)
          generalize K' ++ [(⟨z, ⟨a5, xl.length, c5, xl⟩⟩ : Wr)] = K6 at *
          obtain ⟨g6b, cp6, rfl, hg6a, hg6b, hg6c, hg6d⟩ := G6.own.form (by rw [hn6]; omega)
          have hvb : ∀ e, v'.ownBlock = some e → w.heap.size + 3 ≤ e := fun e he => by have := (GR2.out.lt _ he).1; have := HZ1.out; have := HZ2.out; omega
          have hb6 : Hid (Bx w6 (w.heap.size + 1 + 1) [v, v', .bool dd]) := ((B32.out.drew.here b5).alloc _).grown g6 (fun e => by have := hvb _ e; omega)
          have hd6 : Hid (Bx w6 w.heap.size [.slice a k c, .slice (some ⟨b, off, none⟩) n' c', .bool dd]) := ((HXr.out.drew.here b5).alloc _).grown g6 (fun e => by have := hvb _ e; omega)
          have hf6 := hb6.out.frozen 1
          have keep : ∀ j, w5.cell? ⟨b, j, none⟩ = wr.cell? ⟨b, j, none⟩ ∧ (w5.alloc (.cells #[.int .i64 z, .slice a5 xl.length c5] 64)).cell? ⟨b, j, none⟩ = wr.cell? ⟨b, j, none⟩ ∧ w6.cell? ⟨b, j, none⟩ = wr.cell? ⟨b, j, none⟩ := fun j => (by
            have e1 : (w5.alloc (.cells #[.int .i64 z, .slice a5 xl.length c5] 64)).cell? ⟨b, j, none⟩ = wr.cell? ⟨b, j, none⟩ := (b5.alloc b5.size (.cells #[.int .i64 z, .slice a5 xl.length c5] 64)).cell (p := ⟨b, j, none⟩) hbr
            refine ⟨b5.cell (p := ⟨b, j, none⟩) hbr, e1, ?_⟩
            rw [World.grownBy.cell_far g6 ⟨b, j, none⟩ (Nat.lt_of_lt_of_le hbr (b5.alloc b5.size (.cells #[.int .i64 z, .slice a5 xl.length c5] 64)).size) (fun e => by have h4 : w.heap.size + 3 ≤ b := hvb _ e.symm; omega)]
            exact e1)
          have HC5 : Hid (w5.cell? ⟨b, off + m * 2, none⟩ = some (.int .i64 z) ∧ w5.cell? ⟨b, off + m * 2 + 1, none⟩ = some (.slice xa xlen xcap)) := by
            show _ ∧ _
            rw [(keep _).1, (keep _).1]; exact ⟨hcell, hcell2⟩
          have HC6 : Hid ((w5.alloc (.cells #[.int .i64 z, .slice a5 xl.length c5] 64)).cell? ⟨b, off + m * 2, none⟩ = some (.int .i64 z) ∧ (w5.alloc (.cells #[.int .i64 z, .slice a5 xl.length c5] 64)).cell? ⟨b, off + m * 2 + 1, none⟩ = some (.slice xa xlen xcap)) := by
            show _ ∧ _
            rw [(keep _).2.1, (keep _).2.1]; exact ⟨hcell, hcell2⟩
          have HC7 : Hid (w6.cell? ⟨b, off + m * 2, none⟩ = some (.int .i64 z) ∧ w6.cell? ⟨b, off + m * 2 + 1, none⟩ = some (.slice xa xlen xcap)) := by
            show _ ∧ _
            rw [(keep _).2.2, (keep _).2.2]; exact ⟨hcell, hcell2⟩
          obtain rfl := hxr.long
          have HN6 := Lib.hid hn6
          have HL6 := Lib.hid hl6
          have R5 := Lib.hid r5
          have R6 := Lib.hid r6
          have G6' := Lib.hid G6
          have g6' := Lib.hid g6
          have B5 := Lib.hid b5
          have Hlt := Lib.hid hlt
          clear hn6 hl6 hg6a hg6b hg6c hg6d r5 r6 G6 g6 b5 o5 rd5 g5 q5 hxr hx hx1000 hx0 hvb keep
          go_wp2_with fail
          refine wp_region_noPanic ?_
          refine PX.wp_region_x (fun w' => w'.cell? ⟨w.heap.size + 1 + 1, 1, none⟩ = some v' ∧ w'.cell? ⟨w.heap.size, 1, none⟩ = some (.slice (some ⟨b, off, none⟩) n' c') ∧ w'.cell? ⟨b, off + m * 2, none⟩ = some (.int .i64 z) ∧ w'.cell? ⟨b, off + m * 2 + 1, none⟩ = some (.slice xa xl.length xcap)) 20 (by kernel_rfl) ⟨B32.out.drew.three.2.1, HXr.out.drew.three.2.1, hcell, hcell2⟩ (fun hHeld => ?_)
          refine PX.wpAnyX_take (i := 0) (oi := ?_) (v := ?_) ?_ (by kernel_rfl) (by kernel_rfl) (by kernel_rfl) (by kernel_rfl) (by kernel_rfl) (fun _ _ _ h => h) (Or.inl ⟨?_, ?_⟩) (by assumption) ?_
          rotate_left 2
          · simp only [List.getElem?_toArray, List.getElem?_cons_succ, List.getElem?_cons_zero]; rfl
          · rfl
          · intro w hSw; (try dsimp only at hSw); go_simp <;> with_reducible rfl
          (try simp only [Act.put, List.setIfInBounds_toArray, List.set_cons_zero, List.set_cons_succ])
          refine PX.wpAnyX_take (i := 1) (oi := ?_) (v := ?_) ?_ (by kernel_rfl) (by kernel_rfl) (by kernel_rfl) (by kernel_rfl) (by kernel_rfl) (fun _ _ _ h => h) (Or.inl ⟨?_, ?_⟩) (by assumption) ?_
          rotate_left 2
          · simp only [List.getElem?_toArray, List.getElem?_cons_succ, List.getElem?_cons_zero]; rfl
          · rfl
          · intro w hSw; (try dsimp only at hSw); go_simp <;> with_reducible rfl
          (try simp only [Act.put, List.setIfInBounds_toArray, List.set_cons_zero, List.set_cons_succ])
          refine PX.wpAnyX_take (i := 2) (oi := ?_) (v := ?_) ?_ (by kernel_rfl) (by kernel_rfl) (by kernel_rfl) (by kernel_rfl) (by kernel_rfl) (fun _ _ _ h => h) (Or.inl ⟨?_, ?_⟩) (by assumption) ?_
          rotate_left 2
          · simp only [List.getElem?_toArray, List.getElem?_cons_succ, List.getElem?_cons_zero]; rfl
          · rfl
          · intro w hSw; (try dsimp only at hSw); go_simp <;> with_reducible rfl
          (try simp only [Act.put, List.setIfInBounds_toArray, List.set_cons_zero, List.set_cons_succ])
          refine PX.wpAnyX_take (i := 3) (oi := ?_) (v := ?_) ?_ (by kernel_rfl) (by kernel_rfl) (by kernel_rfl) (by kernel_rfl) (by kernel_rfl) (fun _ _ _ h => h) (Or.inl ⟨?_, ?_⟩) (by assumption) ?_
          rotate_left 2
          · simp only [List.getElem?_toArray, List.getElem?_cons_succ, List.getElem?_cons_zero]; rfl
          · rfl
          · intro w hSw; (try dsimp only at hSw); go_simp <;> with_reducible rfl
          (try simp only [Act.put, List.setIfInBounds_toArray, List.set_cons_zero, List.set_cons_succ])
          refine PX.wpAnyX_take (i := 4) (oi := ?_) (v := ?_) ?_ (by kernel_rfl) (by kernel_rfl) (by kernel_rfl) (by kernel_rfl) (by kernel_rfl) (fun _ _ _ h => h) (Or.inl ⟨?_, ?_⟩) (by assumption) ?_
          rotate_left 2
          · simp only [List.getElem?_toArray, List.getElem?_cons_succ, List.getElem?_cons_zero]; rfl
          · rfl
          · intro w hSw; (try dsimp only at hSw); go_simp <;> with_reducible rfl
          (try simp only [Act.put, List.setIfInBounds_toArray, List.set_cons_zero, List.set_cons_succ])
          refine PX.wpAnyX_take (i := 5) (oi := ?_) (v := ?_) ?_ (by kernel_rfl) (by kernel_rfl) (by kernel_rfl) (by kernel_rfl) (by kernel_rfl) (fun _ _ _ h => h) (Or.inl ⟨?_, ?_⟩) (by assumption) ?_
          rotate_left 2
          · simp only [List.getElem?_toArray, List.getElem?_cons_succ, List.getElem?_cons_zero]; rfl
          · rfl
          · intro w hSw; (try dsimp only at hSw); go_simp <;> with_reducible rfl
          (try simp only [Act.put, List.setIfInBounds_toArray, List.set_cons_zero, List.set_cons_succ])
          refine PX.wpAnyX_take (i := 6) (oi := ?_) (v := ?_) ?_ (by kernel_rfl) (by kernel_rfl) (by kernel_rfl) (by kernel_rfl) (by kernel_rfl) (fun _ _ _ h => h) (Or.inl ⟨?_, ?_⟩) (by assumption) ?_
          rotate_left 2
          · simp only [List.getElem?_toArray, List.getElem?_cons_succ, List.getElem?_cons_zero]; rfl
          · rfl
          · intro w hSw; (try dsimp only at hSw); go_simp <;> with_reducible rfl
          (try simp only [Act.put, List.setIfInBounds_toArray, List.set_cons_zero, List.set_cons_succ])
          refine PX.wpAnyX_take (i := 7) (oi := ?_) (v := ?_) ?_ (by kernel_rfl) (by kernel_rfl) (by kernel_rfl) (by kernel_rfl) (by kernel_rfl) (fun _ _ _ h => h) (Or.inl ⟨?_, ?_⟩) (by assumption) ?_
          rotate_left 2
          · simp only [List.getElem?_toArray, List.getElem?_cons_succ, List.getElem?_cons_zero]; rfl
          · rfl
          · intro w hSw; (try dsimp only at hSw); go_simp <;> with_reducible rfl
          (try simp only [Act.put, List.setIfInBounds_toArray, List.set_cons_zero, List.set_cons_succ])
          refine PX.wpAnyX_take (i := 8) (oi := ?_) (v := ?_) ?_ (by kernel_rfl) (by kernel_rfl) (by kernel_rfl) (by kernel_rfl) (by kernel_rfl) (fun _ _ _ h => h) (Or.inl ⟨?_, ?_⟩) (by assumption) ?_
          rotate_left 2
          · simp only [List.getElem?_toArray, List.getElem?_cons_succ, List.getElem?_cons_zero]; rfl
          · rfl
          · intro w hSw; (try dsimp only at hSw); go_simp <;> with_reducible rfl
          (try simp only [Act.put, List.setIfInBounds_toArray, List.set_cons_zero, List.set_cons_succ])
          refine PX.wpAnyX_take (i := 9) (oi := ?_) (v := ?_) ?_ (by kernel_rfl) (by kernel_rfl) (by kernel_rfl) (by kernel_rfl) (by kernel_rfl) (fun _ _ _ h => h) (Or.inl ⟨?_, ?_⟩) (by assumption) ?_
          rotate_left 2
          · simp only [List.getElem?_toArray, List.getElem?_cons_succ, List.getElem?_cons_zero]; rfl
          · rfl
          · intro w hSw; (try dsimp only at hSw); go_simp <;> with_reducible rfl
          (try simp only [Act.put, List.setIfInBounds_toArray, List.set_cons_zero, List.set_cons_succ])
          refine PX.wpAnyX_take (i := 10) (oi := ?_) (v := ?_) ?_ (by kernel_rfl) (by kernel_rfl) (by kernel_rfl) (by kernel_rfl) (by kernel_rfl) (fun _ _ _ h => h) (Or.inl ⟨?_, ?_⟩) (by assumption) ?_
          rotate_left 2
          · simp only [List.getElem?_toArray, List.getElem?_cons_succ, List.getElem?_cons_zero]; rfl
          · rfl
          · intro w hSw; (try dsimp only at hSw); go_simp <;> with_reducible rfl
          (try simp only [Act.put, List.setIfInBounds_toArray, List.set_cons_zero, List.set_cons_succ])
          refine PX.wpAnyX_take (i := 11) (oi := ?_) (v := ?_) ?_ (by kernel_rfl) (by kernel_rfl) (by kernel_rfl) (by kernel_rfl) (by kernel_rfl) (fun _ _ _ h => h) (Or.inl ⟨?_, ?_⟩) (by assumption) ?_
          rotate_left 2
          · simp only [List.getElem?_toArray, List.getElem?_cons_succ, List.getElem?_cons_zero]; rfl
          · rfl
          · intro w hSw; (try dsimp only at hSw); go_simp <;> with_reducible rfl
          (try simp only [Act.put, List.setIfInBounds_toArray, List.set_cons_zero, List.set_cons_succ])
          refine PX.wpAnyX_take (i := 12) (oi := ?_) (v := ?_) ?_ (by kernel_rfl) (by kernel_rfl) (by kernel_rfl) (by kernel_rfl) (by kernel_rfl) (fun _ _ _ h => h) (Or.inl ⟨?_, ?_⟩) (by assumption) ?_
          rotate_left 2
          · simp only [List.getElem?_toArray, List.getElem?_cons_succ, List.getElem?_cons_zero]; rfl
          · rfl
          · intro w hSw; (try dsimp only at hSw); go_simp <;> with_reducible rfl
          (try simp only [Act.put, List.setIfInBounds_toArray, List.set_cons_zero, List.set_cons_succ])
          refine PX.wpAnyX_take (i := 13) (oi := ?_) (v := ?_) ?_ (by kernel_rfl) (by kernel_rfl) (by kernel_rfl) (by kernel_rfl) (by kernel_rfl) (fun _ _ _ h => h) (Or.inl ⟨?_, ?_⟩) (by assumption) ?_
          rotate_left 2
          · simp only [List.getElem?_toArray, List.getElem?_cons_succ, List.getElem?_cons_zero]; rfl
          · rfl
          · intro w hSw; (try dsimp only at hSw); go_simp <;> with_reducible rfl
          (try simp only [Act.put, List.setIfInBounds_toArray, List.set_cons_zero, List.set_cons_succ])
          refine PX.wpAnyX_take (i := 14) (oi := ?_) (v := ?_) ?_ (by kernel_rfl) (by kernel_rfl) (by kernel_rfl) (by kernel_rfl) (by kernel_rfl) (fun _ _ _ h => h) (Or.inl ⟨?_, ?_⟩) (by assumption) ?_
          rotate_left 2
          · simp only [List.getElem?_toArray, List.getElem?_cons_succ, List.getElem?_cons_zero]; rfl
          · rfl
          · intro w hSw; (try dsimp only at hSw); go_simp <;> with_reducible rfl
          (try simp only [Act.put, List.setIfInBounds_toArray, List.set_cons_zero, List.set_cons_succ])
          refine PX.wpAnyX_one (i := 15) (o := ?_) (by kernel_rfl) ?_ (fun Kq hKq => ?_)
          rotate_left
          · simp only [List.getElem?_toArray, List.getElem?_cons_succ, List.getElem?_cons_zero]; rfl
          refine PX.step_append_run _ _ _ _ (by rfl) (by rfl) R5.out ?_
          refine hKq.out _ _ (⟨(B32.out.drew.here B5.out).three.2.1, (HXr.out.drew.here B5.out).three.2.1, HC5.out⟩) (fun hHeld => ?_)
          clear hKq Kq
          (try simp only [Act.put, List.setIfInBounds_toArray, List.set_cons_zero, List.set_cons_succ])
          refine PX.wpAnyX_one (i := 16) (o := ?_) (by kernel_rfl) ?_ (fun Kq hKq => ?_)
          rotate_left
          · simp only [List.getElem?_toArray, List.getElem?_cons_succ, List.getElem?_cons_zero]; rfl
          go_simp
          refine hKq.out _ _ (by assumption) (fun hHeld => ?_)
          clear hKq Kq
          (try simp only [Act.put, List.setIfInBounds_toArray, List.set_cons_zero, List.set_cons_succ])
          refine PX.wpAnyX_one (i := 17) (o := ?_) (by kernel_rfl) ?_ (fun Kq hKq => ?_)
          rotate_left
          · simp only [List.getElem?_toArray, List.getElem?_cons_succ, List.getElem?_cons_zero]; rfl
          go_simp
          refine hKq.out _ _ (⟨((B32.out.drew.here B5.out).alloc _).three.2.1, ((HXr.out.drew.here B5.out).alloc _).three.2.1, HC6.out⟩) (fun hHeld => ?_)
          clear hKq Kq
          (try simp only [Act.put, List.setIfInBounds_toArray, List.set_cons_zero, List.set_cons_succ])
          refine PX.wpAnyX_one (i := 18) (o := ?_) (by kernel_rfl) ?_ (fun Kq hKq => ?_)
          rotate_left
          · simp only [List.getElem?_toArray, List.getElem?_cons_succ, List.getElem?_cons_zero]; rfl
          refine PX.step_append_run _ _ _ _ (by rfl) (by rfl) R6.out ?_
          refine hKq.out _ _ (⟨hb6.out.three.2.1, hd6.out.three.2.1, HC7.out⟩) (fun hHeld => ?_)
          clear hKq Kq
          (try simp only [Act.put, List.setIfInBounds_toArray, List.set_cons_zero, List.set_cons_succ])
          refine PX.wpAnyX_one (i := 19) (o := ?_) (by kernel_rfl) ?_ (fun Kq hKq => ?_)
          rotate_left
          · simp only [List.getElem?_toArray, List.getElem?_cons_succ, List.getElem?_cons_zero]; rfl
          go_simp
          refine hKq.out _ _ (by assumption) (fun hHeld => ?_)
          clear hKq Kq
          (try simp only [Act.put, List.setIfInBounds_toArray, List.set_cons_zero, List.set_cons_succ])
          refine PX.wpAnyX_last (o := ?_) (by kernel_rfl) ?_ (fun Kq hKq => ?_)
          rotate_left
          · simp only [List.getElem?_toArray, List.getElem?_cons_succ, List.getElem?_cons_zero]; rfl
          go_simp
          refine hKq.out _ _ ?_
          clear hKq Kq
          (try simp only [Act.put, List.setIfInBounds_toArray, List.set_cons_zero, List.set_cons_succ])
          refine PX.wpAnyX_done (by kernel_rfl) ?_ _
          refine NoPanic.normal ?_
          go_wp2_with fail
          go_roundw
          case rel =>
            exact ⟨m + 1, _, K6, by have := Hlt.out; omega, by go_num, grownBy_setCell (grownBy_other (grownBy_alloc (grownBy_below (grownBy_drew GB2.out) B5.out) _) g6'.out (fun b e => (GR2.out.lt _ e).1)) 1 _, hb6.out.set 1 _,
              G6'.out.setCell ⟨w.heap.size + 1 + 1, 1, none⟩ (by show w.heap.size + 1 + 1 < _; have := HZ1.out; have := HZ2.out; omega) _, HN6.out, HL6.out⟩
          case measure => have := Hlt.out; simp [intOf]; omega
        · obtain rfl : m = n' := by omega
          have CR := Lib.hid (Cross.later GR.out GR2.out)
          have GRf : Hid (Grow W1.heap.size wr v K) := GR.out.grown GB2.out (.inl (by rw [HZ1.out]; omega))
          obtain ⟨va, vc, rfl, rv⟩ := GR.out.rds
          obtain ⟨va', vc', rfl, rv'⟩ := GR2.out.rws
          obtain ⟨d0, d1, d2⟩ := B32.out.three
          have hxe := HX1'.out.grown GB2.out (by intro e; injection e with e; omega)
          have hlge : w.heap.size < wr.heap.size := hxe.lt
          obtain ⟨y0, y1, y2⟩ := hxe.three
          clear hxe
          clear rv rv'
          have hx2 : Bx wr (w.heap.size + 1) [.slice none 0 0, .slice none 0 0, .bool false] := (HX2.out.grown GB.out (by intro e; injection e with e; omega)).grown GB2.out (by intro e; injection e with e; omega)
          obtain ⟨q0, q1, q2⟩ := hx2.three
          have f0 := hx2.frozen 0
          have f1 := hx2.frozen 1
          have f2 := hx2.frozen 2
          clear hx2
          have K2B := Lib.hid kb2.out
          have fin : Hid (∀ u0 u1 u2, OwnDev w.heap.size (((wr.setCell ⟨w.heap.size + 1, 0, none⟩ u0).setCell ⟨w.heap.size + 1, 1, none⟩ u1).setCell ⟨w.heap.size + 1, 2, none⟩ u2) (.agg #[.slice va K.length vc, .slice va' K'.length vc', .bool dd]) D ∧ Below w.heap.size w (((wr.setCell ⟨w.heap.size + 1, 0, none⟩ u0).setCell ⟨w.heap.size + 1, 1, none⟩ u1).setCell ⟨w.heap.size + 1, 2, none⟩ u2)) := fun u0 u1 u2 => by
            have hg : w.heap.size + 1 < W1.heap.size := by rw [HZ1.out]; omega
            have hg2 : w.heap.size + 1 < W2.heap.size := Nat.lt_of_lt_of_le hg HZ2.out
            refine ⟨?_, ((K2B.out.setCell (p := ⟨w.heap.size + 1, 0, none⟩) (by show w.heap.size ≤ w.heap.size + 1; omega) _).setCell (p := ⟨w.heap.size + 1, 1, none⟩) (by show w.heap.size ≤ w.heap.size + 1; omega) _).setCell (p := ⟨w.heap.size + 1, 2, none⟩) (by show w.heap.size ≤ w.heap.size + 1; omega) _⟩
            rw [HD.out]
            exact ⟨_, _, K, K', rfl, (((GRf.out.setCell ⟨w.heap.size + 1, 0, none⟩ hg u0).setCell ⟨w.heap.size + 1, 1, none⟩ hg u1).setCell ⟨w.heap.size + 1, 2, none⟩ hg u2).mono (by rw [HZ1.out]; omega),
              (((GR2.out.setCell ⟨w.heap.size + 1, 0, none⟩ hg2 u0).setCell ⟨w.heap.size + 1, 1, none⟩ hg2 u1).setCell ⟨w.heap.size + 1, 2, none⟩ hg2 u2).mono (by have := HZ1.out; have := HZ2.out; omega), HLall.out, by rw [HL2.out, List.take_of_length_le (by rw [← Hn.out.2]; exact Nat.le_refl _)], CR.out⟩
          generalize K.length = q at *
          generalize K'.length = q' at *
          go_wp2_with fail
          exact bodyPost_ret (v := .agg #[.slice va q vc, .slice va' q' vc', .bool dd]) (by simp [results, Try.results51, go_sem, *]) rfl ⟨_, rfl, (fin.out _ _ _).1, (fin.out _ _ _).2⟩
end Go.Proofs.Ytnhfkfihlkbkfaa.PW
