/-
  Contracts of layer 4: a device in new memory, the program's and the document's own.
-/
import Derived.Test.YtnhfkfihlkbkfaaDiskSmall
import Derived.Test.YtnhfkfihlkbkfaaKinds
import Derived.Test.YtnhfkfihlkbkfaaHoist

namespace Go.Proofs.Ytnhfkfihlkbkfaa.PW
open Go.RowKit
open DK (Dv)
set_option linter.unusedVariables false
set_option maxRecDepth 100000
set_option linter.unusedSimpArgs false

/-- A device is not greater than the laws go through. -/
def Fit (D : Dv) : Prop := D.bs.length ≤ 1000 ∧ D.ws.length ≤ 2000 ∧ (∀ l ∈ D.bs, l.length ≤ 100000) ∧ (∀ p ∈ D.ws, p.2.length ≤ 100000)

set_option maxRecDepth 100000 in
set_option maxHeartbeats 1000000 in
theorem twin_any (a : Option Addr) (n c : Nat) (a' : Option Addr) (n' c' : Nat) (D : Dv) (w : World) (hr : DevAt w.heap.size w a n c a' n' c' D) (hf : Fit D) :
    Calls Try.prog 64 #[.agg #[.slice a n c, .slice a' n' c', .bool D.dead]] w (TheDev w D) := by
  obtain ⟨dd, hdd⟩ : ∃ dd, dd = D.dead := ⟨_, rfl⟩
  have HD := Lib.hid hdd
  rw [← hdd]
  clear hdd
  have Hn := Lib.hid hr.long
  have hs := hr.small.1
  have hs' := hr.small.2
  unfold maxLen at hs hs'
  have Hr := Lib.hid hr
  have HF := Lib.hid hf
  clear hr hf
  go_enter Try.func64, Try.ntmps64
  go_wp2_with fail
  have hx1 := Bx.new w [.slice a n c, .slice a' n' c', .bool dd] 37
  have hx2 := Bx.new (w.alloc (.cells #[.slice a n c, .slice a' n' c', .bool dd] 37)) [.slice none 0 0, .slice none 0 0, .bool false] 37
  have hx3 := Bx.new ((w.alloc (.cells #[.slice a n c, .slice a' n' c', .bool dd] 37)).alloc (.cells #[.slice none 0 0, .slice none 0 0, .bool false] 37)) [.slice none 0 0, .slice none 0 0, .bool dd] 37
  have hx1' := (hx1.alloc (.cells #[.slice none 0 0, .slice none 0 0, .bool false] 37)).alloc (.cells #[.slice none 0 0, .slice none 0 0, .bool dd] 37)
  have hx2' := hx2.alloc (.cells #[.slice none 0 0, .slice none 0 0, .bool dd] 37)
  have hb1 : Below w.heap.size w (((w.alloc (.cells #[.slice a n c, .slice a' n' c', .bool dd] 37)).alloc (.cells #[.slice none 0 0, .slice none 0 0, .bool false] 37)).alloc (.cells #[.slice none 0 0, .slice none 0 0, .bool dd] 37)) :=
    (((Below.refl _ _).alloc (Nat.le_refl _) _).alloc (by simp) _).alloc (by simp; omega) _
  have hz1 : (((w.alloc (.cells #[.slice a n c, .slice a' n' c', .bool dd] 37)).alloc (.cells #[.slice none 0 0, .slice none 0 0, .bool false] 37)).alloc (.cells #[.slice none 0 0, .slice none 0 0, .bool dd] 37)).heap.size = w.heap.size + 3 := by simp
  simp only [World.size_alloc] at hx2' hx3
  clear hx1 hx2
  generalize ((w.alloc (.cells #[.slice a n c, .slice a' n' c', .bool dd] 37)).alloc (.cells #[.slice none 0 0, .slice none 0 0, .bool false] 37)).alloc (.cells #[.slice none 0 0, .slice none 0 0, .bool dd] 37) = W1 at *
  have HX1 := Lib.hid hx1'
  have HX2 := Lib.hid hx2'
  have HX3 := Lib.hid hx3
  have HB1 := Lib.hid hb1
  have HZ1 := Lib.hid hz1
  clear hx1' hx2' hx3 hb1 hz1
  go_loopw [14] (fun i wr => ∃ (k : Nat) (v : Value) (K : List Hd), k ≤ n ∧ i = .int .i64 k ∧ Hid (W1.grownBy wr (some (w.heap.size + 1 + 1))) ∧ Hid (Bx wr (w.heap.size + 1 + 1) [v, .slice none 0 0, .bool dd]) ∧ Hid (Grow W1.heap.size wr v K) ∧ Hid (K.length = k) ∧ Hid (lists K = D.bs.take k)) (fun i _ => n - (intOf i).toNat)
  case atStart => exact ⟨0, _, [], by omega, rfl, World.grownBy.refl _ _, HX3.out, Grow.nil _ _, (rfl : ([] : List Hd).length = 0), (rfl : lists [] = D.bs.take 0)⟩
  case round =>
    obtain ⟨k, v, K, hk, rfl, GB, B3, GR, HK, HL⟩ := hrel
    have kb : Hid (Below w.heap.size w wr) := HB1.out.trans (Below.ofGrown GB.out (by rw [HZ1.out]; omega) (fun b e => by injection e with e; omega))
    by_cases hlt : k < n
    · obtain ⟨b, off, xa, xlen, xcap, xl, rfl, hbB, hx, hcell, hxr⟩ := (Hr.out.below kb.out).at k hlt
      have hx1000 : xl.length ≤ 100000 := by rw [← hx]; exact HF.out.2.2.1 _ (mem_getD (by rw [← Hn.out.1]; exact hlt))
      have CL := Lib.hid (clone_any xa xlen xcap xl wr.drew (hxr.drewN 1) hx1000 (by show _ ≤ wr.heap.size; exact Nat.le_trans (by rw [HZ1.out]; omega) GB.out.size))
      have HC := Lib.hid hcell
      have Hx := Lib.hid hx
      have hlg : w.heap.size + 1 + 1 < wr.heap.size := B3.out.lt
      have hfz : wr.drew.frozen? ⟨w.heap.size + 1 + 1, 0, none⟩ = false := B3.out.drew.frozen 0
      have Hlt := Lib.hid hlt
      clear hxr hx hx1000
      go_wp2_with fail
      clear hcell
      refine wp_region_noPanic ?_
      refine PX.wp_region_x (fun w' => w'.cell? ⟨w.heap.size + 1 + 1, 0, none⟩ = some v) 7 (by kernel_rfl) B3.out.drew.three.1 (fun hHeld => ?_)
      refine PX.wpAnyX_take (i := 0) (oi := ?_) (v := ?_) ?_ (by kernel_rfl) (by kernel_rfl) (by kernel_rfl) (by kernel_rfl) (by kernel_rfl) (fun _ _ _ h => h) (Or.inl ⟨?_, ?_⟩) (by assumption) ?_
      rotate_left 2
      · simp only [List.getElem?_toArray, List.getElem?_cons_succ, List.getElem?_cons_zero]; rfl
      · rfl
      · intro w hSw; (try dsimp only at hSw); go_simp <;> with_reducible rfl
      (try simp only [Act.put, List.setIfInBounds_toArray, List.set_cons_zero, List.set_cons_succ])
      refine PX.wpAnyX_take (i := 1) (oi := ?_) (v := ?_) ?_ (by kernel_rfl) (by kernel_rfl) (by kernel_rfl) (by kernel_rfl) (by kernel_rfl) (fun _ _ _ h => h) (Or.inl ⟨?_, ?_⟩) (by assumption) ?_
      rotate_left 2
      · simp only [List.getElem?_toArray, List.getElem?_cons_succ, List.getElem?_cons_zero]; rfl
      · rfl
      · intro w hSw; (try dsimp only at hSw); go_simp <;> with_reducible rfl
      (try simp only [Act.put, List.setIfInBounds_toArray, List.set_cons_zero, List.set_cons_succ])
      refine PX.wpAnyX_take (i := 2) (oi := ?_) (v := ?_) ?_ (by kernel_rfl) (by kernel_rfl) (by kernel_rfl) (by kernel_rfl) (by kernel_rfl) (fun _ _ _ h => h) (Or.inl ⟨?_, ?_⟩) (by assumption) ?_
      rotate_left 2
      · simp only [List.getElem?_toArray, List.getElem?_cons_succ, List.getElem?_cons_zero]; rfl
      · rfl
      · intro w hSw; (try dsimp only at hSw); go_simp <;> with_reducible rfl
      (try simp only [Act.put, List.setIfInBounds_toArray, List.set_cons_zero, List.set_cons_succ])
      refine PX.wpAnyX_one (i := 3) (o := ?_) (by kernel_rfl) ?_ (fun Kq hKq => ?_)
      rotate_left
      · simp only [List.getElem?_toArray, List.getElem?_cons_succ, List.getElem?_cons_zero]; rfl
      go_simp
      refine CL.out.mono ?_
      rintro e w5 ⟨a5, c5, rfl, o5, r5, b5⟩
      obtain ⟨v6, w6, r6, G6, g6⟩ := (GR.out.drew).step (Nat.le_trans GB.out.size (Nat.le_refl _)) (by rw [HK.out]; have := HF.out.1; have := Hn.out.1; omega) b5 (Item.own o5 r5)
      have hn6 : (K ++ [(⟨a5, xlen, c5, xl⟩ : Hd)]).length = k + 1 := by rw [List.length_append, HK.out]; rfl
      have hl6 : lists (K ++ [(⟨a5, xlen, c5, xl⟩ : Hd)]) = D.bs.take (k + 1) := (by
        rw [lists_append, HL.out, List.take_add_one, List.getElem?_eq_getElem (by rw [← Hn.out.1]; exact Hlt.out)]
        have : D.bs[k]'(by rw [← Hn.out.1]; exact Hlt.out) = xl := by rw [← Hx.out]; simp [List.getD, show k < D.bs.length by rw [← Hn.out.1]; exact Hlt.out]
        rw [this]; rfl)
      generalize K ++ [(⟨a5, xlen, c5, xl⟩ : Hd)] = K6 at *
      have HN6 := Lib.hid hn6
      have HL6 := Lib.hid hl6
      obtain ⟨g6b, cp6, rfl, hg6a, hg6b, _, _⟩ := G6.own.form (by rw [hn6]; omega)
      clear hn6 hl6 hg6a hg6b
      have R6 := Lib.hid r6
      have G6' := Lib.hid G6
      have g6' := Lib.hid g6
      have B5 := Lib.hid b5
      have hb6 : Hid (Bx w6 (w.heap.size + 1 + 1) [v, .slice none 0 0, .bool dd]) := ((B3.out.drew.here B5.out).alloc _).grown g6 (fun e => absurd (GR.out.lt _ e).1 (by rw [HZ1.out]; omega))
      have hf6 := hb6.out.frozen 0
      clear r6 G6 g6 o5 r5 b5
      go_wp2_with fail
      refine hKq.out _ _ ((B3.out.drew.here B5.out).three.1) (fun hHeld => ?_)
      clear hKq Kq
      (try simp only [Act.put, List.setIfInBounds_toArray, List.set_cons_zero, List.set_cons_succ])
      refine PX.wpAnyX_one (i := 4) (o := ?_) (by kernel_rfl) ?_ (fun Kq hKq => ?_)
      rotate_left
      · simp only [List.getElem?_toArray, List.getElem?_cons_succ, List.getElem?_cons_zero]; rfl
      go_simp
      refine hKq.out _ _ (((B3.out.drew.here B5.out).alloc _).three.1) (fun hHeld => ?_)
      clear hKq Kq
      (try simp only [Act.put, List.setIfInBounds_toArray, List.set_cons_zero, List.set_cons_succ])
      refine PX.wpAnyX_one (i := 5) (o := ?_) (by kernel_rfl) ?_ (fun Kq hKq => ?_)
      rotate_left
      · simp only [List.getElem?_toArray, List.getElem?_cons_succ, List.getElem?_cons_zero]; rfl
      refine PX.step_append_run _ _ _ _ (by rfl) (by rfl) R6.out ?_
      refine hKq.out _ _ (hb6.out.three.1) (fun hHeld => ?_)
      clear hKq Kq
      (try simp only [Act.put, List.setIfInBounds_toArray, List.set_cons_zero, List.set_cons_succ])
      refine PX.wpAnyX_one (i := 6) (o := ?_) (by kernel_rfl) ?_ (fun Kq hKq => ?_)
      rotate_left
      · simp only [List.getElem?_toArray, List.getElem?_cons_succ, List.getElem?_cons_zero]; rfl
      go_simp
      refine hKq.out _ _ (by assumption) (fun hHeld => ?_)
      clear hKq Kq
      (try simp only [Act.put, List.setIfInBounds_toArray, List.set_cons_zero, List.set_cons_succ])
      refine PX.wpAnyX_last (o := ?_) (by kernel_rfl) ?_ (fun Kq hKq => ?_)
      rotate_left
      · simp only [List.getElem?_toArray, List.getElem?_cons_succ, List.getElem?_cons_zero]; rfl
      go_simp
      refine hKq.out _ _ ?_
      clear hKq Kq
      (try simp only [Act.put, List.setIfInBounds_toArray, List.set_cons_zero, List.set_cons_succ])
      refine PX.wpAnyX_done (by kernel_rfl) ?_ _
      refine NoPanic.normal ?_
      go_wp2_with fail
      go_roundw
      case rel =>
        exact ⟨k + 1, _, K6, by have := Hlt.out; omega, by go_num, grownBy_setCell (grownBy_other (grownBy_alloc (grownBy_below (grownBy_drew GB.out) B5.out) _) g6'.out (fun b e => (GR.out.lt _ e).1)) 0 _, hb6.out.set 0 _,
          G6'.out.setCell ⟨w.heap.size + 1 + 1, 0, none⟩ (by show w.heap.size + 1 + 1 < _; rw [HZ1.out]; omega) _, HN6.out, HL6.out⟩
      case measure => have := Hlt.out; simp [intOf]; omega
    · obtain rfl : k = n := by omega
      have hx1 := HX1.out.grown GB.out (by intro e; injection e with e; omega)
      obtain ⟨d0, d1, d2⟩ := hx1.three
      have HX1' := Lib.hid hx1
      have HLall : Hid (lists K = D.bs) := by show _ = _; rw [HL.out, List.take_of_length_le (by rw [← Hn.out.1]; exact Nat.le_refl _)]
      clear hx1 hlt HL
      go_wp2_with fail
      obtain ⟨W2, hW2⟩ : ∃ W2 : World, W2 = wr := ⟨_, rfl⟩
      subst hW2
      clear d0 d1 d2
      have HZ2 : Hid (W1.heap.size ≤ W2.heap.size) := GB.out.size
      go_loopw [29] (fun i wr => ∃ (m : Nat) (v' : Value) (K' : List Wr), m ≤ n' ∧ i = .int .i64 m ∧ Hid (W2.grownBy wr (some (w.heap.size + 1 + 1))) ∧ Hid (Bx wr (w.heap.size + 1 + 1) [v, v', .bool dd]) ∧ Hid (GrowW W2.heap.size wr v' K') ∧ Hid (K'.length = m) ∧ Hid (wlist K' = D.ws.take m)) (fun i _ => n' - (intOf i).toNat)
      case atStart => exact ⟨0, _, [], by omega, rfl, World.grownBy.refl _ _, B3.out, GrowW.nil _ _, (rfl : ([] : List Wr).length = 0), (rfl : wlist [] = D.ws.take 0)⟩
      case round =>
        obtain ⟨m, v', K', hm, rfl, GB2, B32, GR2, HK2, HL2⟩ := hrel
        have kb2 : Hid (Below w.heap.size w wr) := kb.out.trans (Below.ofGrown GB2.out (by have := HZ2.out; have := HZ1.out; omega) (fun b e => by injection e with e; omega))
        by_cases hlt : m < n'
        · obtain ⟨b, off, z, xa, xlen, xcap, xl, rfl, hbB, hx, hcell, hcell2, hxr⟩ := (Hr.out.below kb2.out).wat m hlt
          have hx1000 : xl.length ≤ 100000 := (by
            have := HF.out.2.2.2 _ (mem_getD (d := (0, [])) (k := m) (by rw [← Hn.out.2]; exact hlt))
            rw [hx] at this; exact this)
          have hwz : w.heap.size ≤ wr.heap.size := kb2.out.size
          have CL := Lib.hid (fun w0 (hr : Rd w.heap.size w0 xa xlen xcap xl) hB => clone_any xa xlen xcap xl w0 hr hx1000 hB)
          have HR := Lib.hid hxr
          have Hx := Lib.hid hx
          have hlg : w.heap.size + 1 + 1 < wr.heap.size := B32.out.lt
          have bx7 := Bx.new wr [.int .i64 z, .slice xa xlen xcap] 64
          have hal : Below wr.heap.size wr (wr.alloc (.cells [Value.int .i64 z, .slice xa xlen xcap].toArray 64)) := (Below.refl _ _).alloc (Nat.le_refl _) _
          have BX7 := Lib.hid bx7
          have HAL := Lib.hid hal
          have Hlt := Lib.hid hlt
          clear hxr hx hx1000 bx7 hal
          go_wp2_with fail
          clear hcell hcell2
          have hz7 : Hid ((wr.alloc (.cells #[Value.int .i64 z, .slice xa xlen xcap] 64)).heap.size = wr.heap.size + 1) := by show _ = _; simp
          generalize hW3 : wr.alloc (.cells #[Value.int .i64 z, .slice xa xlen xcap] 64) = W3
          replace BX7 : Hid (Bx W3 wr.heap.size [.int .i64 z, .slice xa xlen xcap]) := by rw [← hW3]; exact BX7.out
          replace HAL : Hid (Below wr.heap.size wr W3) := by rw [← hW3]; exact HAL.out
          replace hz7 : Hid (W3.heap.size = wr.heap.size + 1) := by rw [← hW3]; exact hz7.out
          clear hW3
          have B33 : Hid (Bx W3 (w.heap.size + 1 + 1) [v, v', .bool dd]) := B32.out.here HAL.out
          have GR3 : Hid (GrowW W2.heap.size W3 v' K') := GR2.out.here HAL.out
          have hfz : W3.drew.frozen? ⟨w.heap.size + 1 + 1, 1, none⟩ = false := B33.out.drew.frozen 1
          have RD3 : Hid (Rd w.heap.size W3.drew xa xlen xcap xl) := (HR.out.below (HAL.out.mono hwz)).drewN 1
          refine wp_region_noPanic ?_
          refine PX.wp_region_x (fun w' => w'.cell? ⟨w.heap.size + 1 + 1, 1, none⟩ = some v' ∧ w'.cell? ⟨wr.heap.size, 0, none⟩ = some (.int .i64 z) ∧ w'.cell? ⟨wr.heap.size, 1, none⟩ = some (.slice xa xlen xcap)) 11 (by kernel_rfl) ⟨B33.out.drew.three.2.1, BX7.out.drew.two⟩ (fun hHeld => ?_)
          refine PX.wpAnyX_take (i := 0) (oi := ?_) (v := ?_) ?_ (by kernel_rfl) (by kernel_rfl) (by kernel_rfl) (by kernel_rfl) (by kernel_rfl) (fun _ _ _ h => h) (Or.inl ⟨?_, ?_⟩) (by assumption) ?_
          rotate_left 2
          · simp only [List.getElem?_toArray, List.getElem?_cons_succ, List.getElem?_cons_zero]; rfl
          · rfl
          · intro w hSw; (try dsimp only at hSw); go_simp <;> with_reducible rfl
          (try simp only [Act.put, List.setIfInBounds_toArray, List.set_cons_zero, List.set_cons_succ])
          refine PX.wpAnyX_take (i := 1) (oi := ?_) (v := ?_) ?_ (by kernel_rfl) (by kernel_rfl) (by kernel_rfl) (by kernel_rfl) (by kernel_rfl) (fun _ _ _ h => h) (Or.inl ⟨?_, ?_⟩) (by assumption) ?_
          rotate_left 2
          · simp only [List.getElem?_toArray, List.getElem?_cons_succ, List.getElem?_cons_zero]; rfl
          · rfl
          · intro w hSw; (try dsimp only at hSw); go_simp <;> with_reducible rfl
          (try simp only [Act.put, List.setIfInBounds_toArray, List.set_cons_zero, List.set_cons_succ])
          refine PX.wpAnyX_take (i := 2) (oi := ?_) (v := ?_) ?_ (by kernel_rfl) (by kernel_rfl) (by kernel_rfl) (by kernel_rfl) (by kernel_rfl) (fun _ _ _ h => h) (Or.inl ⟨?_, ?_⟩) (by assumption) ?_
          rotate_left 2
          · simp only [List.getElem?_toArray, List.getElem?_cons_succ, List.getElem?_cons_zero]; rfl
          · rfl
          · intro w hSw; (try dsimp only at hSw); go_simp <;> with_reducible rfl
          (try simp only [Act.put, List.setIfInBounds_toArray, List.set_cons_zero, List.set_cons_succ])
          refine PX.wpAnyX_take (i := 3) (oi := ?_) (v := ?_) ?_ (by kernel_rfl) (by kernel_rfl) (by kernel_rfl) (by kernel_rfl) (by kernel_rfl) (fun _ _ _ h => h) (Or.inl ⟨?_, ?_⟩) (by assumption) ?_
          rotate_left 2
          · simp only [List.getElem?_toArray, List.getElem?_cons_succ, List.getElem?_cons_zero]; rfl
          · rfl
          · intro w hSw; (try dsimp only at hSw); go_simp <;> with_reducible rfl
          (try simp only [Act.put, List.setIfInBounds_toArray, List.set_cons_zero, List.set_cons_succ])
          refine PX.wpAnyX_take (i := 4) (oi := ?_) (v := ?_) ?_ (by kernel_rfl) (by kernel_rfl) (by kernel_rfl) (by kernel_rfl) (by kernel_rfl) (fun _ _ _ h => h) (Or.inl ⟨?_, ?_⟩) (by assumption) ?_
          rotate_left 2
          · simp only [List.getElem?_toArray, List.getElem?_cons_succ, List.getElem?_cons_zero]; rfl
          · rfl
          · intro w hSw; (try dsimp only at hSw); go_simp <;> with_reducible rfl
          (try simp only [Act.put, List.setIfInBounds_toArray, List.set_cons_zero, List.set_cons_succ])
          refine PX.wpAnyX_take (i := 5) (oi := ?_) (v := ?_) ?_ (by kernel_rfl) (by kernel_rfl) (by kernel_rfl) (by kernel_rfl) (by kernel_rfl) (fun _ _ _ h => h) (Or.inl ⟨?_, ?_⟩) (by assumption) ?_
          rotate_left 2
          · simp only [List.getElem?_toArray, List.getElem?_cons_succ, List.getElem?_cons_zero]; rfl
          · rfl
          · intro w hSw; (try dsimp only at hSw); go_simp <;> with_reducible rfl
          (try simp only [Act.put, List.setIfInBounds_toArray, List.set_cons_zero, List.set_cons_succ])
          refine PX.wpAnyX_one (i := 6) (o := ?_) (by kernel_rfl) ?_ (fun Kq hKq => ?_)
          rotate_left
          · simp only [List.getElem?_toArray, List.getElem?_cons_succ, List.getElem?_cons_zero]; rfl
          go_simp
          refine (CL.out _ RD3.out (by show _ ≤ W3.heap.size; have := hz7.out; omega)).mono ?_
          rintro e w5 ⟨a5, c5, rfl, o5, r5, b5⟩
          obtain ⟨v6, w6, r6, G6, g6⟩ := (GR3.out.drew).step (Nat.le_trans GB2.out.size (Nat.le_trans HAL.out.size (Nat.le_refl _))) (by rw [HK2.out]; have := HF.out.2.1; have := Hn.out.2; omega) b5 z (Item.own o5 r5)
          have hn6 : (K' ++ [(⟨z, ⟨a5, xlen, c5, xl⟩⟩ : Wr)]).length = m + 1 := by rw [List.length_append, HK2.out]; rfl
          have hl6 : wlist (K' ++ [(⟨z, ⟨a5, xlen, c5, xl⟩⟩ : Wr)]) = D.ws.take (m + 1) := (by
            rw [wlist_append, HL2.out, List.take_add_one, List.getElem?_eq_getElem (by rw [← Hn.out.2]; exact Hlt.out)]
            have : D.ws[m]'(by rw [← Hn.out.2]; exact Hlt.out) = (z, xl) := by rw [← Hx.out]; simp [List.getD, show m < D.ws.length by rw [← Hn.out.2]; exact Hlt.out]
            rw [this]; rfl)
          generalize K' ++ [(⟨z, ⟨a5, xlen, c5, xl⟩⟩ : Wr)] = K6 at *
          have HN6 := Lib.hid hn6
          have HL6 := Lib.hid hl6
          obtain ⟨g6b, cp6, rfl, hg6a, hg6b, hg6c, hg6d⟩ := G6.own.form (by rw [hn6]; omega)
          clear hn6 hl6 hg6a hg6b hg6c hg6d
          have R6 := Lib.hid r6
          have G6' := Lib.hid G6
          have g6' := Lib.hid g6
          have B5 := Lib.hid b5
          have hb6 : Hid (Bx w6 (w.heap.size + 1 + 1) [v, v', .bool dd]) := ((B33.out.drew.here B5.out).alloc _).grown g6 (fun e => absurd (GR3.out.lt _ e).1 (by have := HZ1.out; have := HZ2.out; omega))
          have hb7 : Hid (Bx w6 wr.heap.size [.int .i64 z, .slice xa xlen xcap]) := ((BX7.out.drew.here B5.out).alloc _).grown g6 (fun e => absurd (GR2.out.lt _ e).2 (by omega))
          have hf6 := hb6.out.frozen 1
          clear r6 G6 g6 o5 r5 b5
          go_wp2_with fail
          refine hKq.out _ _ (⟨(B33.out.drew.here B5.out).three.2.1, (BX7.out.drew.here B5.out).two⟩) (fun hHeld => ?_)
          clear hKq Kq
          (try simp only [Act.put, List.setIfInBounds_toArray, List.set_cons_zero, List.set_cons_succ])
          refine PX.wpAnyX_one (i := 7) (o := ?_) (by kernel_rfl) ?_ (fun Kq hKq => ?_)
          rotate_left
          · simp only [List.getElem?_toArray, List.getElem?_cons_succ, List.getElem?_cons_zero]; rfl
          go_simp
          refine hKq.out _ _ (by assumption) (fun hHeld => ?_)
          clear hKq Kq
          (try simp only [Act.put, List.setIfInBounds_toArray, List.set_cons_zero, List.set_cons_succ])
          refine PX.wpAnyX_one (i := 8) (o := ?_) (by kernel_rfl) ?_ (fun Kq hKq => ?_)
          rotate_left
          · simp only [List.getElem?_toArray, List.getElem?_cons_succ, List.getElem?_cons_zero]; rfl
          go_simp
          refine hKq.out _ _ (⟨((B33.out.drew.here B5.out).alloc _).three.2.1, ((BX7.out.drew.here B5.out).alloc _).two⟩) (fun hHeld => ?_)
          clear hKq Kq
          (try simp only [Act.put, List.setIfInBounds_toArray, List.set_cons_zero, List.set_cons_succ])
          refine PX.wpAnyX_one (i := 9) (o := ?_) (by kernel_rfl) ?_ (fun Kq hKq => ?_)
          rotate_left
          · simp only [List.getElem?_toArray, List.getElem?_cons_succ, List.getElem?_cons_zero]; rfl
          refine PX.step_append_run _ _ _ _ (by rfl) (by rfl) R6.out ?_
          refine hKq.out _ _ (⟨hb6.out.three.2.1, hb7.out.two⟩) (fun hHeld => ?_)
          clear hKq Kq
          (try simp only [Act.put, List.setIfInBounds_toArray, List.set_cons_zero, List.set_cons_succ])
          refine PX.wpAnyX_one (i := 10) (o := ?_) (by kernel_rfl) ?_ (fun Kq hKq => ?_)
          rotate_left
          · simp only [List.getElem?_toArray, List.getElem?_cons_succ, List.getElem?_cons_zero]; rfl
          go_simp
          refine hKq.out _ _ (by assumption) (fun hHeld => ?_)
          clear hKq Kq
          (try simp only [Act.put, List.setIfInBounds_toArray, List.set_cons_zero, List.set_cons_succ])
          refine PX.wpAnyX_last (o := ?_) (by kernel_rfl) ?_ (fun Kq hKq => ?_)
          rotate_left
          · simp only [List.getElem?_toArray, List.getElem?_cons_succ, List.getElem?_cons_zero]; rfl
          go_simp
          refine hKq.out _ _ ?_
          clear hKq Kq
          (try simp only [Act.put, List.setIfInBounds_toArray, List.set_cons_zero, List.set_cons_succ])
          refine PX.wpAnyX_done (by kernel_rfl) ?_ _
          refine NoPanic.normal ?_
          go_wp2_with fail
          go_roundw
          case rel =>
            exact ⟨m + 1, _, K6, by have := Hlt.out; omega, by go_num, grownBy_setCell (grownBy_other (grownBy_alloc (grownBy_below (grownBy_drew (grownBy_below GB2.out HAL.out)) B5.out) _) g6'.out (fun b e => (GR3.out.lt _ e).1)) 1 _, hb6.out.set 1 _,
              G6'.out.setCell ⟨w.heap.size + 1 + 1, 1, none⟩ (by show w.heap.size + 1 + 1 < _; have := HZ1.out; have := HZ2.out; omega) _, HN6.out, HL6.out⟩
          case measure => have := Hlt.out; simp [intOf]; omega
        · obtain rfl : m = n' := by omega
          have CR := Lib.hid (Cross.later GR.out GR2.out)
          have GRf : Hid (Grow W1.heap.size wr v K) := GR.out.grown GB2.out (.inl (by rw [HZ1.out]; omega))
          obtain ⟨va, vc, rfl, rv⟩ := GR.out.rds
          obtain ⟨va', vc', rfl, rv'⟩ := GR2.out.rws
          obtain ⟨d0, d1, d2⟩ := B32.out.three
          clear rv rv'
          have hx2 : Bx wr (w.heap.size + 1) [.slice none 0 0, .slice none 0 0, .bool false] := (HX2.out.grown GB.out (by intro e; injection e with e; omega)).grown GB2.out (by intro e; injection e with e; omega)
          obtain ⟨q0, q1, q2⟩ := hx2.three
          have f0 := hx2.frozen 0
          have f1 := hx2.frozen 1
          have f2 := hx2.frozen 2
          clear hx2
          have K2B := Lib.hid kb2.out
          have fin : Hid (∀ u0 u1 u2, OwnDev w.heap.size (((wr.setCell ⟨w.heap.size + 1, 0, none⟩ u0).setCell ⟨w.heap.size + 1, 1, none⟩ u1).setCell ⟨w.heap.size + 1, 2, none⟩ u2) (.agg #[.slice va K.length vc, .slice va' K'.length vc', .bool dd]) D ∧ Below w.heap.size w (((wr.setCell ⟨w.heap.size + 1, 0, none⟩ u0).setCell ⟨w.heap.size + 1, 1, none⟩ u1).setCell ⟨w.heap.size + 1, 2, none⟩ u2)) := fun u0 u1 u2 => by
            have hg : w.heap.size + 1 < W1.heap.size := by rw [HZ1.out]; omega
            have hg2 : w.heap.size + 1 < W2.heap.size := Nat.lt_of_lt_of_le hg HZ2.out
            refine ⟨?_, ((K2B.out.setCell (p := ⟨w.heap.size + 1, 0, none⟩) (by show w.heap.size ≤ w.heap.size + 1; omega) _).setCell (p := ⟨w.heap.size + 1, 1, none⟩) (by show w.heap.size ≤ w.heap.size + 1; omega) _).setCell (p := ⟨w.heap.size + 1, 2, none⟩) (by show w.heap.size ≤ w.heap.size + 1; omega) _⟩
            rw [HD.out]
            exact ⟨_, _, K, K', rfl, (((GRf.out.setCell ⟨w.heap.size + 1, 0, none⟩ hg u0).setCell ⟨w.heap.size + 1, 1, none⟩ hg u1).setCell ⟨w.heap.size + 1, 2, none⟩ hg u2).mono (by rw [HZ1.out]; omega),
              (((GR2.out.setCell ⟨w.heap.size + 1, 0, none⟩ hg2 u0).setCell ⟨w.heap.size + 1, 1, none⟩ hg2 u1).setCell ⟨w.heap.size + 1, 2, none⟩ hg2 u2).mono (by have := HZ1.out; have := HZ2.out; omega), HLall.out, by rw [HL2.out, List.take_of_length_le (by rw [← Hn.out.2]; exact Nat.le_refl _)], CR.out⟩
          generalize K.length = q at *
          generalize K'.length = q' at *
          go_wp2_with fail
          exact bodyPost_ret (v := .agg #[.slice va q vc, .slice va' q' vc', .bool dd]) (by simp [results, Try.results64, go_sem, *]) rfl ⟨_, rfl, (fin.out _ _ _).1, (fin.out _ _ _).2⟩
end Go.Proofs.Ytnhfkfihlkbkfaa.PW
