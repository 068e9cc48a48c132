/-
  Contract of layer 4's 'alive': the chapter's first examples.
-/
import Derived.Test.YtnhfkfihlkbkfaaDiskLawMath
namespace Go.Proofs.Ytnhfkfihlkbkfaa.PW
open Go.RowKit
open DK (Dv)
set_option linter.unusedVariables false
set_option maxRecDepth 100000
set_option linter.unusedSimpArgs false

theorem told_true {m R : List Nat} {x : Nat} (h : m = List.replicate 128 x) : told m 0 x = true := by simp [told, h]
theorem fl_full (x : Nat) : DK.fl (List.replicate 128 x) = List.replicate 128 x := DK.fl_ne (by simp)
theorem full_sized (x : Nat) : DK.sized (List.replicate 128 x) = true := by simp [DK.sized]
/-- What a call answers that hands back a device: its parts. -/
theorem NewDev.open {w : World} {D : Dv} {c : Nat} {e : Ending} {w' : World} (h : NewDev w D c e w') :
    ∃ a n cp a' n' c', e = .returned (.tuple #[.agg #[.slice a n cp, .slice a' n' c', .bool D.dead], .int .i64 (c : Int)]) ∧ OwnDev w.heap.size w' (.agg #[.slice a n cp, .slice a' n' c', .bool D.dead]) D ∧ DevAt w'.heap.size w' a n cp a' n' c' D ∧ Below w.heap.size w w' := by
  obtain ⟨v, rfl, od, hb⟩ := h
  obtain ⟨a, n, cp, a', n', c', rfl, hd⟩ := od.at
  exact ⟨a, n, cp, a', n', c', rfl, od, hd, hb⟩

theorem DevAt.own3 {lo : Nat} {w : World} {a : Option Addr} {n c : Nat} {a' : Option Addr} {n' c' : Nat} {D : Dv} (h : OwnDev lo w (.agg #[.slice a n c, .slice a' n' c', .bool D.dead]) D) (g : Nat) (hg : g < lo) (u v x : Value) :
    DevAt (((w.setCell ⟨g, 0, none⟩ u).setCell ⟨g, 1, none⟩ v).setCell ⟨g, 2, none⟩ x).heap.size (((w.setCell ⟨g, 0, none⟩ u).setCell ⟨g, 1, none⟩ v).setCell ⟨g, 2, none⟩ x) a n c a' n' c' D := by
  have h3 := ((h.setCell ⟨g, 0, none⟩ hg u).setCell ⟨g, 1, none⟩ hg v).setCell ⟨g, 2, none⟩ hg x
  obtain ⟨b, m, d, b', m', d', e, hd⟩ := h3.at
  injection e with e
  have e2 := congrArg Array.toList e
  simp only [List.cons.injEq, Value.slice.injEq, and_true] at e2
  obtain ⟨⟨rfl, rfl, rfl⟩, rfl, rfl, rfl⟩ := e2
  exact hd
set_option maxRecDepth 100000 in
set_option maxHeartbeats 1000000 in
theorem alive_any (w : World) : Calls Try.prog 34 #[] w fun e w' => e = .returned (.bool true) ∧ Below w.heap.size w w' := by
  obtain ⟨R, hR⟩ : ∃ R, R = List.replicate 128 120 := ⟨_, rfl⟩
  have hd0 : newDev 2 = DK.fresh 2 := rfl
  have hc0 : newCode 2 = 0 := rfl
  have h0 : DK.wcode (DK.fresh 2) 1 R = 0 := wcode_of (may_fresh (by omega) (by omega)) rfl (by rw [hR]; exact full_sized _) rfl
  have h1 : DK.wcode' (DK.fresh 2) 1 R = 0 := wcode'_of h0 (by decide)
  have hA : writeDev (DK.fresh 2) 1 R = DK.put (DK.fresh 2) 1 R := by simp [writeDev, h1]
  have mA : DK.may (DK.put (DK.fresh 2) 1 R) = true := may_put h1
  have hf : DK.fcode (DK.put (DK.fresh 2) 1 R) = 0 := fcode_of mA rfl
  have hB : flushDev (DK.put (DK.fresh 2) 1 R) = DK.flushed (DK.put (DK.fresh 2) 1 R) := by simp [flushDev, hf]
  have mB : DK.may (DK.flushed (DK.put (DK.fresh 2) 1 R)) = true := may_flushed hf
  have h2 : DK.wcode (DK.put (DK.fresh 2) 1 R) 1 [] = 0 := wcode_of mA rfl rfl rfl
  have hC : fuaDev (DK.put (DK.fresh 2) 1 R) 1 [] = DK.sure (DK.put (DK.fresh 2) 1 R) 1 [] := by simp [fuaDev, h2]
  have mC : DK.may (DK.sure (DK.put (DK.fresh 2) 1 R) 1 []) = true := may_sure h2
  have wC : (DK.sure (DK.put (DK.fresh 2) 1 R) 1 []).ws.length = 0 := by rfl
  have rA : DK.rcode (DK.put (DK.fresh 2) 1 R) 1 = 0 := rcode_of mA rfl rfl
  have rB : DK.rcode (DK.flushed (DK.put (DK.fresh 2) 1 R)) 1 = 0 := rcode_of mB (has_len (E := DK.fresh 2) (lay_length _ _) 1) rfl
  have rC : DK.rcode (DK.sure (DK.put (DK.fresh 2) 1 R) 1 []) 1 = 0 := rcode_of mC rfl rfl
  have sA : DK.seen (DK.put (DK.fresh 2) 1 R) 1 = List.replicate 128 120 := by rw [seen_put, if_pos rfl, hR, fl_full]
  have t1 : told (rtext (DK.put (DK.fresh 2) 1 R) 1) (DK.rcode (DK.put (DK.fresh 2) 1 R) 1) 120 = true := by
    rw [rtext, rA, if_pos rfl]; exact told_true (R := R) sA
  have t2 : told (ltext (DK.put (DK.fresh 2) 1 R) 1) (DK.rcode (DK.put (DK.fresh 2) 1 R) 1) 0 = true := by
    rw [ltext, rA, if_pos rfl]; exact told_true (R := R) DK.fl_nil
  have t3 : told (ltext (DK.flushed (DK.put (DK.fresh 2) 1 R)) 1) (DK.rcode (DK.flushed (DK.put (DK.fresh 2) 1 R)) 1) 120 = true := by
    rw [ltext, rB, if_pos rfl]; exact told_true (R := R) (by rw [lies_flushed mA (by omega)]; exact sA)
  have t4 : told (rtext (DK.sure (DK.put (DK.fresh 2) 1 R) 1 []) 1) (DK.rcode (DK.sure (DK.put (DK.fresh 2) 1 R) 1 []) 1) 0 = true := by
    rw [rtext, rC, if_pos rfl]; exact told_true (R := R) (by rw [seen_sure rfl (by omega), if_pos rfl]; exact DK.fl_nil)
  have e1 : (DK.put (DK.fresh 2) 1 R).dead = false := rfl
  have e2 : (DK.flushed (DK.put (DK.fresh 2) 1 R)).dead = false := rfl
  have e3 : (DK.sure (DK.put (DK.fresh 2) 1 R) 1 []).dead = false := rfl
  have e4 : (DK.fresh 2).dead = false := rfl
  have CN : Hid (∀ w1, Calls Try.prog 35 #[.int .i64 2] w1 (NewDev w1 (DK.fresh 2) 0)) := fun w1 => by
    have := new_any 2 w1; rw [hd0, hc0] at this; exact this
  have CF : Hid (∀ w1, Calls Try.prog 37 #[.int .u8 120] w1 fun e w' => ∃ g, e = .returned (.slice (some ⟨g, 0, none⟩) 128 128) ∧ w1.heap.size ≤ g ∧ Rd w'.heap.size w' (some ⟨g, 0, none⟩) 128 128 R ∧ Below w1.heap.size w1 w') := fun w1 => by
    rw [hR]; exact full_rd 120 (by omega) w1
  have hRl : R.length ≤ 100000 := by rw [hR]; simp
  have CW : Hid (∀ w1 a n c a' n' c' b m d, DevAt w1.heap.size w1 a n c a' n' c' (DK.fresh 2) → Rd w1.heap.size w1 b m d R → Calls Try.prog 36 #[.agg #[.slice a n c, .slice a' n' c', .bool false], .int .i64 1, .slice b m d] w1 (NewDev w1 (DK.put (DK.fresh 2) 1 R) 0)) := fun w1 a n c a' n' c' b m d hd hq => by
    have := write_any a n c a' n' c' (DK.fresh 2) 1 b m d R w1 hd (fit_may (may_fresh (by omega) (by omega))) hq hRl
    rw [hA, h1] at this; exact this
  have CL : Hid (∀ w1 a n c a' n' c', DevAt w1.heap.size w1 a n c a' n' c' (DK.put (DK.fresh 2) 1 R) → Calls Try.prog 39 #[.agg #[.slice a n c, .slice a' n' c', .bool false]] w1 (NewDev w1 (DK.flushed (DK.put (DK.fresh 2) 1 R)) 0)) := fun w1 a n c a' n' c' hd => by
    have := flush_any a n c a' n' c' (DK.put (DK.fresh 2) 1 R) w1 hd (fit_may mA)
    rw [hB, hf] at this; exact this
  have CU : Hid (∀ w1 a n c a' n' c', DevAt w1.heap.size w1 a n c a' n' c' (DK.put (DK.fresh 2) 1 R) → Calls Try.prog 38 #[.agg #[.slice a n c, .slice a' n' c', .bool false], .int .i64 1, .slice none 0 0] w1 (NewDev w1 (DK.sure (DK.put (DK.fresh 2) 1 R) 1 []) 0)) := fun w1 a n c a' n' c' hd => by
    have := fua_any a n c a' n' c' (DK.put (DK.fresh 2) 1 R) 1 none 0 0 [] w1 hd (fit_may mA) (rd_nil _ _) (by simp)
    rw [hC, h2] at this; exact this
  have CR1 : Hid (∀ w1 a n c a' n' c', DevAt w1.heap.size w1 a n c a' n' c' (DK.put (DK.fresh 2) 1 R) → Calls Try.prog 41 #[.agg #[.slice a n c, .slice a' n' c', .bool false], .int .i64 1, .int .u8 120] w1 fun e w' => e = .returned (.bool true) ∧ Below w1.heap.size w1 w') := fun w1 a n c a' n' c' hd => by
    have := reads_any a n c a' n' c' _ 1 120 (by omega) w1 hd
    rw [t1] at this; exact this
  have CR2 : Hid (∀ w1 a n c a' n' c', DevAt w1.heap.size w1 a n c a' n' c' (DK.put (DK.fresh 2) 1 R) → Calls Try.prog 42 #[.agg #[.slice a n c, .slice a' n' c', .bool false], .int .i64 1, .int .u8 0] w1 fun e w' => e = .returned (.bool true) ∧ Below w1.heap.size w1 w') := fun w1 a n c a' n' c' hd => by
    have := lasts_any a n c a' n' c' _ 1 0 (by omega) w1 hd
    rw [t2] at this; exact this
  have CR3 : Hid (∀ w1 a n c a' n' c', DevAt w1.heap.size w1 a n c a' n' c' (DK.flushed (DK.put (DK.fresh 2) 1 R)) → Calls Try.prog 42 #[.agg #[.slice a n c, .slice a' n' c', .bool false], .int .i64 1, .int .u8 120] w1 fun e w' => e = .returned (.bool true) ∧ Below w1.heap.size w1 w') := fun w1 a n c a' n' c' hd => by
    have := lasts_any a n c a' n' c' _ 1 120 (by omega) w1 hd
    rw [t3] at this; exact this
  have CR4 : Hid (∀ w1 a n c a' n' c', DevAt w1.heap.size w1 a n c a' n' c' (DK.sure (DK.put (DK.fresh 2) 1 R) 1 []) → Calls Try.prog 41 #[.agg #[.slice a n c, .slice a' n' c', .bool false], .int .i64 1, .int .u8 0] w1 fun e w' => e = .returned (.bool true) ∧ Below w1.heap.size w1 w') := fun w1 a n c a' n' c' hd => by
    have := reads_any a n c a' n' c' _ 1 0 (by omega) w1 hd
    rw [t4] at this; exact this
  clear hd0 hc0 h0 h1 hA mA hf hB mB h2 hC mC rA rB rC sA t1 t2 t3 t4 hRl hR
  generalize DK.flushed (DK.put (DK.fresh 2) 1 R) = DB at *
  generalize DK.sure (DK.put (DK.fresh 2) 1 R) 1 [] = DC at *
  generalize DK.put (DK.fresh 2) 1 R = DA at *
  generalize DK.fresh 2 = D0 at *
  go_enter Try.func34, Try.ntmps34
  go_wp2_with fail
  refine (CN.out _).mono ?_
  intro e w1 hn
  obtain ⟨a1, n1, c1, a1', n1', c1', rfl, -, at1, b1⟩ := hn.open
  rw [e4]
  have AT1 := Lib.hid at1
  have B1 := Lib.hid b1
  clear hn at1 b1
  have bx1 := Bx.new w1 [.slice a1 n1 c1, .slice a1' n1' c1', .bool false] 37
  have bb1 : Below w1.heap.size w1 (w1.alloc (.cells [Value.slice a1 n1 c1, .slice a1' n1' c1', .bool false].toArray 37)) := (Below.refl _ _).alloc (Nat.le_refl _) _
  have BX1 := Lib.hid bx1
  have BB1 := Lib.hid bb1
  clear bx1 bb1
  go_wp2_with fail
  generalize hW2 : w1.alloc (.cells #[.slice a1 n1 c1, .slice a1' n1' c1', .bool false] 37) = W2
  replace BX1 : Hid (Bx W2 w1.heap.size [.slice a1 n1 c1, .slice a1' n1' c1', .bool false]) := by rw [← hW2]; exact BX1.out
  have hB2 : Hid (Below w1.heap.size w1 W2) := by rw [← hW2]; exact BB1.out
  have HB2 : Hid (Below w.heap.size w W2) := thence B1.out hB2.out (Nat.le_refl _)
  have AT2 : Hid (DevAt W2.heap.size W2 a1 n1 c1 a1' n1' c1' D0) := AT1.out.here hB2.out
  clear hW2 BB1
  obtain ⟨y0, y1, y2⟩ := BX1.out.three
  refine wp_region_noPanic ?_
  refine PX.wp_region_x (fun w' => w'.cell? ⟨w1.heap.size, 0, none⟩ = some (.slice a1 n1 c1) ∧ w'.cell? ⟨w1.heap.size, 1, none⟩ = some (.slice a1' n1' c1') ∧ w'.cell? ⟨w1.heap.size, 2, none⟩ = some (.bool false)) 8 (by kernel_rfl) BX1.out.drew.three (fun hHeld => ?_)
  refine PX.wpAnyX_take (i := 0) (oi := ?_) (v := ?_) ?_ (by kernel_rfl) (by kernel_rfl) (by kernel_rfl) (by kernel_rfl) (by kernel_rfl) (fun _ _ _ h => h) (Or.inl ⟨?_, ?_⟩) (by assumption) ?_
  rotate_left 2
  · simp only [List.getElem?_toArray, List.getElem?_cons_succ, List.getElem?_cons_zero]; rfl
  · rfl
  · intro w hSw; (try dsimp only at hSw); go_simp <;> with_reducible rfl
  (try simp only [Act.put, List.setIfInBounds_toArray, List.set_cons_zero, List.set_cons_succ])
  refine PX.wpAnyX_two (i := 1) (j := 6) (o := ?_) (o' := ?_) (by kernel_rfl) ?_ ?_ (fun Kq hKq => ?_) (fun Kq hKq => ?_)
  rotate_left 2
  · simp only [List.getElem?_toArray, List.getElem?_cons_succ, List.getElem?_cons_zero]; rfl
  · simp only [List.getElem?_toArray, List.getElem?_cons_succ, List.getElem?_cons_zero]; rfl
  · go_simp
    refine (CF.out _).mono ?_
    rintro e w5 ⟨g5, rfl, hg5, r5, b5⟩
    have B5 : Hid (Below W2.heap.size W2 w5) := thence ((Below.refl W2.heap.size W2).drew) b5 (Nat.le_refl _)
    have R5 := Lib.hid r5
    have b5' := Lib.hid b5
    clear b5 r5 hg5
    go_wp2_with fail
    refine hKq.out _ _ ((BX1.out.here B5.out).three) (fun hHeld => ?_)
    clear hKq Kq
    (try simp only [Act.put, List.setIfInBounds_toArray, List.set_cons_zero, List.set_cons_succ])
    refine PX.wpAnyX_two (i := 2) (j := 6) (o := ?_) (o' := ?_) (by kernel_rfl) ?_ ?_ (fun Kq hKq => ?_) (fun Kq hKq => ?_)
    rotate_left 2
    · simp only [List.getElem?_toArray, List.getElem?_cons_succ, List.getElem?_cons_zero]; rfl
    · simp only [List.getElem?_toArray, List.getElem?_cons_succ, List.getElem?_cons_zero]; rfl
    · go_simp
      refine (CW.out _ _ _ _ _ _ _ _ _ _ (AT2.out.here (B5.out)) (R5.out)).mono ?_
      intro e w6 hn
      obtain ⟨a6, n6, c6, a6', n6', c6', rfl, -, at6, b6⟩ := hn.open
      rw [e1]
      have B6 : Hid (Below W2.heap.size W2 w6) := thence (B5.out) b6 (Nat.le_refl _)
      have A6 := Lib.hid at6
      have b6' := Lib.hid b6
      clear hn at6 b6
      go_wp2_with fail
      refine hKq.out _ _ ((BX1.out.here B6.out).three) (fun hHeld => ?_)
      clear hKq Kq
      (try simp only [Act.put, List.setIfInBounds_toArray, List.set_cons_zero, List.set_cons_succ])
      refine PX.wpAnyX_take (i := 3) (oi := ?_) (v := ?_) ?_ (by kernel_rfl) (by kernel_rfl) (by kernel_rfl) (by kernel_rfl) (by kernel_rfl) (fun _ _ _ h => h) (Or.inl ⟨?_, ?_⟩) (by assumption) ?_
      rotate_left 2
      · simp only [List.getElem?_toArray, List.getElem?_cons_succ, List.getElem?_cons_zero]; rfl
      · rfl
      · intro w hSw; (try dsimp only at hSw); go_simp <;> with_reducible rfl
      (try simp only [Act.put, List.setIfInBounds_toArray, List.set_cons_zero, List.set_cons_succ])
      refine PX.wpAnyX_take (i := 4) (oi := ?_) (v := ?_) ?_ (by kernel_rfl) (by kernel_rfl) (by kernel_rfl) (by kernel_rfl) (by kernel_rfl) (fun _ _ _ h => h) (Or.inl ⟨?_, ?_⟩) (by assumption) ?_
      rotate_left 2
      · simp only [List.getElem?_toArray, List.getElem?_cons_succ, List.getElem?_cons_zero]; rfl
      · rfl
      · intro w hSw; (try dsimp only at hSw); go_simp <;> with_reducible rfl
      (try simp only [Act.put, List.setIfInBounds_toArray, List.set_cons_zero, List.set_cons_succ])
      refine PX.wpAnyX_take (i := 5) (oi := ?_) (v := ?_) ?_ (by kernel_rfl) (by kernel_rfl) (by kernel_rfl) (by kernel_rfl) (by kernel_rfl) (fun _ _ _ h => h) (Or.inl ⟨?_, ?_⟩) (by assumption) ?_
      rotate_left 2
      · simp only [List.getElem?_toArray, List.getElem?_cons_succ, List.getElem?_cons_zero]; rfl
      · rfl
      · intro w hSw; (try dsimp only at hSw); go_simp <;> with_reducible rfl
      (try simp only [Act.put, List.setIfInBounds_toArray, List.set_cons_zero, List.set_cons_succ])
      refine PX.wpAnyX_one (i := 6) (o := ?_) (by kernel_rfl) ?_ (fun Kq hKq => ?_)
      rotate_left
      · simp only [List.getElem?_toArray, List.getElem?_cons_succ, List.getElem?_cons_zero]; rfl
      go_simp
      refine hKq.out _ _ (((BX1.out.here B6.out).alloc _).three) (fun hHeld => ?_)
      clear hKq Kq
      (try simp only [Act.put, List.setIfInBounds_toArray, List.set_cons_zero, List.set_cons_succ])
      refine PX.wpAnyX_one (i := 7) (o := ?_) (by kernel_rfl) ?_ (fun Kq hKq => ?_)
      rotate_left
      · simp only [List.getElem?_toArray, List.getElem?_cons_succ, List.getElem?_cons_zero]; rfl
      go_simp
      refine hKq.out _ _ (((BX1.out.here B6.out).alloc _).three) (fun hHeld => ?_)
      clear hKq Kq
      (try simp only [Act.put, List.setIfInBounds_toArray, List.set_cons_zero, List.set_cons_succ])
      refine PX.wpAnyX_last (o := ?_) (by kernel_rfl) ?_ (fun Kq hKq => ?_)
      rotate_left
      · simp only [List.getElem?_toArray, List.getElem?_cons_succ, List.getElem?_cons_zero]; rfl
      go_simp
      refine hKq.out _ _ ?_
      clear hKq Kq
      (try simp only [Act.put, List.setIfInBounds_toArray, List.set_cons_zero, List.set_cons_succ])
      refine PX.wpAnyX_done (by kernel_rfl) ?_ _
      refine NoPanic.normal ?_
      have al6 : Below w6.heap.size w6 (w6.alloc (.cells [Value.slice a6 n6 c6, .slice a6' n6' c6', .bool false].toArray 37)) := (Below.refl _ _).alloc (Nat.le_refl _) _
      have BX3 := Lib.hid (Bx.new w6 [.slice a6 n6 c6, .slice a6' n6' c6', .bool false] 37)
      have AT6 := Lib.hid (A6.out.here al6)
      have HB6 := Lib.hid (thence HB2.out (thence B6.out al6 (Nat.le_refl _)) (Nat.le_refl _))
      generalize w6.alloc (.cells [Value.slice a6 n6 c6, .slice a6' n6' c6', .bool false].toArray 37) = W6 at *
      generalize w6.heap.size = G6 at *
      obtain ⟨p0, p1, p2⟩ := BX3.out.three
      go_wp2_with fail
      refine (CL.out _ _ _ _ _ _ _ AT6.out).mono ?_
      intro e w7 hn
      obtain ⟨a7, n7, c7, a7', n7', c7', rfl, -, at7, b7⟩ := hn.open
      rw [e2]
      have B7 := Lib.hid b7
      have BX37 := Lib.hid (BX3.out.here b7)
      have AT67 := Lib.hid (AT6.out.here b7)
      have AT7 := Lib.hid at7
      obtain ⟨r0, r1, r2⟩ := BX37.out.three
      have l7 := BX37.out.lt
      have bx7 := Bx.new w7 [.slice a7 n7 c7, .slice a7' n7' c7', .bool false] 37
      have bb7 : Below w7.heap.size w7 (w7.alloc (.cells [Value.slice a7 n7 c7, .slice a7' n7' c7', .bool false].toArray 37)) := (Below.refl _ _).alloc (Nat.le_refl _) _
      have BX7 := Lib.hid bx7
      have BB7 := Lib.hid bb7
      clear hn at7 b7 bx7 bb7 p0 p1 p2
      go_wp2_with fail
      refine (CU.out _ _ _ _ _ _ _ (AT67.out.here BB7.out)).mono ?_
      intro e w8 hn
      obtain ⟨a8, n8, c8, a8', n8', c8', rfl, -, at8, b8⟩ := hn.open
      rw [e3]
      have hn8 : n8' = 0 := by rw [at8.long.2]; exact wC
      subst hn8
      have BX38 := Lib.hid ((BX37.out.here BB7.out).here b8)
      have BX78 := Lib.hid (BX7.out.here b8)
      have AT8 := Lib.hid at8
      have AT78 := Lib.hid ((AT7.out.here BB7.out).here b8)
      have AT68 := Lib.hid ((AT67.out.here BB7.out).here b8)
      have B8 : Hid (Below w.heap.size w w8) := thence (thence (thence HB6.out B7.out (Nat.le_refl _)) BB7.out (Nat.le_refl _)) b8 (Nat.le_refl _)
      have bx8 := Bx.new w8 [.slice a8 n8 c8, .slice a8' 0 c8', .bool false] 37
      have bb8 : Below w8.heap.size w8 (w8.alloc (.cells [Value.slice a8 n8 c8, .slice a8' 0 c8', .bool false].toArray 37)) := (Below.refl _ _).alloc (Nat.le_refl _) _
      have BB8 := Lib.hid bb8
      obtain ⟨s0, s1, s2⟩ := BX38.out.three
      obtain ⟨v0, v1, v2⟩ := BX78.out.three
      have l8 := BX38.out.lt
      have l78 := BX78.out.lt
      have BX39 := Lib.hid (BX38.out.here bb8)
      have BX79 := Lib.hid (BX78.out.here bb8)
      have BX89 := Lib.hid bx8
      clear hn at8 b8 bx8 bb8 r0 r1 r2
      go_wp2_with fail
      refine (CR1.out _ _ _ _ _ _ _ (AT68.out.here BB8.out)).mono ?_
      rintro e w9 ⟨rfl, b9⟩
      obtain ⟨s0, s1, s2⟩ := (BX39.out.here b9).three
      have T9 := Lib.hid b9
      clear b9
      go_wp2_with fail
      refine (CR2.out _ _ _ _ _ _ _ ((AT68.out.here BB8.out).here T9.out)).mono ?_
      rintro e w10 ⟨rfl, b10⟩
      have T10 := Lib.hid (thence T9.out b10 (Nat.le_refl _))
      obtain ⟨s0, s1, s2⟩ := (BX79.out.here T10.out).three
      clear b10
      go_wp2_with fail
      refine (CR3.out _ _ _ _ _ _ _ ((AT78.out.here BB8.out).here T10.out)).mono ?_
      rintro e w11 ⟨rfl, b11⟩
      have T11 := Lib.hid (thence T10.out b11 (Nat.le_refl _))
      obtain ⟨s0, s1, s2⟩ := (BX89.out.here T11.out).three
      clear b11
      go_wp2_with fail
      refine (CR4.out _ _ _ _ _ _ _ ((AT8.out.here BB8.out).here T11.out)).mono ?_
      rintro e w12 ⟨rfl, b12⟩
      have T12 := Lib.hid (thence T11.out b12 (Nat.le_refl _))
      obtain ⟨s0, s1, s2⟩ := (BX89.out.here T12.out).three
      clear b12
      go_wp2_with fail
      go_ret
      exact ⟨rfl, thence (thence B8.out BB8.out (Nat.le_refl _)) T12.out (Nat.le_refl _)⟩
    · go_simp
      have HG0 : Hid (w.heap.size ≤ w5.heap.size) := Nat.le_trans HB2.out.size B5.out.size
      refine hKq.out _ _ (((BX1.out.here B5.out).alloc _).three) (fun hHeld => ?_)
      clear hKq Kq
      (try simp only [Act.put, List.setIfInBounds_toArray, List.set_cons_zero, List.set_cons_succ])
      refine PX.wpAnyX_one (i := 2) (o := ?_) (by kernel_rfl) ?_ (fun Kq hKq => ?_)
      rotate_left
      · simp only [List.getElem?_toArray, List.getElem?_cons_succ, List.getElem?_cons_zero]; rfl
      go_simp
      refine (CW.out _ _ _ _ _ _ _ _ _ _ (AT2.out.here (B5.out.alloc B5.out.size (.cells #[.slice none 0 0, .slice none 0 0, .bool false] 37))) (R5.out.here ((Below.refl _ _).alloc (Nat.le_refl _) (.cells #[.slice none 0 0, .slice none 0 0, .bool false] 37)))).mono ?_
      intro e w6 hn
      obtain ⟨a6, n6, c6, a6', n6', c6', rfl, od6, at6, b6⟩ := hn.open
      rw [e1]
      have OD6 := Lib.hid od6
      have BX6 : Hid (Bx w6 (w5.heap.size) [.slice none 0 0, .slice none 0 0, .bool false]) := (Bx.new w5 [.slice none 0 0, .slice none 0 0, .bool false] 37).here b6
      have HG6 : Hid (w5.heap.size < _) := (Bx.new w5 [.slice none 0 0, .slice none 0 0, .bool false] 37).lt
      have B6 : Hid (Below W2.heap.size W2 w6) := thence (B5.out.alloc B5.out.size (.cells #[.slice none 0 0, .slice none 0 0, .bool false] 37)) b6 (Nat.le_refl _)
      have A6 := Lib.hid at6
      have b6' := Lib.hid b6
      clear hn at6 b6 od6
      obtain ⟨z0, z1, z2⟩ := BX6.out.three
      have zf0 := BX6.out.frozen 0
      have zf1 := BX6.out.frozen 1
      have zf2 := BX6.out.frozen 2
      go_wp2_with fail
      have NE1 : Hid (w5.heap.size ≠ w1.heap.size) := Nat.ne_of_gt (Nat.lt_of_lt_of_le BX1.out.lt B5.out.size)
      refine hKq.out _ _ ((BX1.out.here B6.out).three) (fun hHeld => ?_)
      clear hKq Kq
      (try simp only [Act.put, List.setIfInBounds_toArray, List.set_cons_zero, List.set_cons_succ])
      refine PX.wpAnyX_take (i := 3) (oi := ?_) (v := ?_) ?_ (by kernel_rfl) (by kernel_rfl) (by kernel_rfl) (by kernel_rfl) (by kernel_rfl) (fun _ _ _ h => h) (Or.inl ⟨?_, ?_⟩) (by assumption) ?_
      rotate_left 2
      · simp only [List.getElem?_toArray, List.getElem?_cons_succ, List.getElem?_cons_zero]; rfl
      · rfl
      · intro w hSw; (try dsimp only at hSw); go_simp <;> with_reducible rfl
      (try simp only [Act.put, List.setIfInBounds_toArray, List.set_cons_zero, List.set_cons_succ])
      refine PX.wpAnyX_take (i := 4) (oi := ?_) (v := ?_) ?_ (by kernel_rfl) (by kernel_rfl) (by kernel_rfl) (by kernel_rfl) (by kernel_rfl) (fun _ _ _ h => h) (Or.inl ⟨?_, ?_⟩) (by assumption) ?_
      rotate_left 2
      · simp only [List.getElem?_toArray, List.getElem?_cons_succ, List.getElem?_cons_zero]; rfl
      · rfl
      · intro w hSw; (try dsimp only at hSw); go_simp <;> with_reducible rfl
      (try simp only [Act.put, List.setIfInBounds_toArray, List.set_cons_zero, List.set_cons_succ])
      refine PX.wpAnyX_take (i := 5) (oi := ?_) (v := ?_) ?_ (by kernel_rfl) (by kernel_rfl) (by kernel_rfl) (by kernel_rfl) (by kernel_rfl) (fun _ _ _ h => h) (Or.inl ⟨?_, ?_⟩) (by assumption) ?_
      rotate_left 2
      · simp only [List.getElem?_toArray, List.getElem?_cons_succ, List.getElem?_cons_zero]; rfl
      · rfl
      · intro w hSw; (try dsimp only at hSw); go_simp <;> with_reducible rfl
      (try simp only [Act.put, List.setIfInBounds_toArray, List.set_cons_zero, List.set_cons_succ])
      refine PX.wpAnyX_one (i := 7) (o := ?_) (by kernel_rfl) ?_ (fun Kq hKq => ?_)
      rotate_left
      · simp only [List.getElem?_toArray, List.getElem?_cons_succ, List.getElem?_cons_zero]; rfl
      go_simp
      refine hKq.out _ _ ((((BX1.out.here B6.out).other _ (NE1.out) _).other _ (NE1.out) _).other _ (NE1.out) _ |>.three) (fun hHeld => ?_)
      clear hKq Kq
      (try simp only [Act.put, List.setIfInBounds_toArray, List.set_cons_zero, List.set_cons_succ])
      refine PX.wpAnyX_last (o := ?_) (by kernel_rfl) ?_ (fun Kq hKq => ?_)
      rotate_left
      · simp only [List.getElem?_toArray, List.getElem?_cons_succ, List.getElem?_cons_zero]; rfl
      go_simp
      refine hKq.out _ _ ?_
      clear hKq Kq
      (try simp only [Act.put, List.setIfInBounds_toArray, List.set_cons_zero, List.set_cons_succ])
      refine PX.wpAnyX_done (by kernel_rfl) ?_ _
      refine NoPanic.normal ?_
      have BX3 : Hid (Bx (((w6.setCell ⟨w5.heap.size, 0, none⟩ (.slice a6 n6 c6)).setCell ⟨w5.heap.size, 1, none⟩ (.slice a6' n6' c6')).setCell ⟨w5.heap.size, 2, none⟩ (.bool false)) (w5.heap.size) [.slice a6 n6 c6, .slice a6' n6' c6', .bool false]) := ((BX6.out.set 0 _).set 1 _).set 2 _
      have AT6 := Lib.hid (DevAt.own3 OD6.out (w5.heap.size) HG6.out (.slice a6 n6 c6) (.slice a6' n6' c6') (.bool false))
      have HB6 : Hid (Below w.heap.size w (((w6.setCell ⟨w5.heap.size, 0, none⟩ (.slice a6 n6 c6)).setCell ⟨w5.heap.size, 1, none⟩ (.slice a6' n6' c6')).setCell ⟨w5.heap.size, 2, none⟩ (.bool false))) := (((thence HB2.out B6.out (Nat.le_refl _)).setCell (p := ⟨w5.heap.size, 0, none⟩) HG0.out _).setCell (p := ⟨w5.heap.size, 1, none⟩) HG0.out _).setCell (p := ⟨w5.heap.size, 2, none⟩) HG0.out _
      generalize (((w6.setCell ⟨w5.heap.size, 0, none⟩ (.slice a6 n6 c6)).setCell ⟨w5.heap.size, 1, none⟩ (.slice a6' n6' c6')).setCell ⟨w5.heap.size, 2, none⟩ (.bool false)) = W6 at *
      generalize w5.heap.size = G6 at *
      obtain ⟨p0, p1, p2⟩ := BX3.out.three
      go_wp2_with fail
      refine (CL.out _ _ _ _ _ _ _ AT6.out).mono ?_
      intro e w7 hn
      obtain ⟨a7, n7, c7, a7', n7', c7', rfl, -, at7, b7⟩ := hn.open
      rw [e2]
      have B7 := Lib.hid b7
      have BX37 := Lib.hid (BX3.out.here b7)
      have AT67 := Lib.hid (AT6.out.here b7)
      have AT7 := Lib.hid at7
      obtain ⟨r0, r1, r2⟩ := BX37.out.three
      have l7 := BX37.out.lt
      have bx7 := Bx.new w7 [.slice a7 n7 c7, .slice a7' n7' c7', .bool false] 37
      have bb7 : Below w7.heap.size w7 (w7.alloc (.cells [Value.slice a7 n7 c7, .slice a7' n7' c7', .bool false].toArray 37)) := (Below.refl _ _).alloc (Nat.le_refl _) _
      have BX7 := Lib.hid bx7
      have BB7 := Lib.hid bb7
      clear hn at7 b7 bx7 bb7 p0 p1 p2
      go_wp2_with fail
      refine (CU.out _ _ _ _ _ _ _ (AT67.out.here BB7.out)).mono ?_
      intro e w8 hn
      obtain ⟨a8, n8, c8, a8', n8', c8', rfl, -, at8, b8⟩ := hn.open
      rw [e3]
      have hn8 : n8' = 0 := by rw [at8.long.2]; exact wC
      subst hn8
      have BX38 := Lib.hid ((BX37.out.here BB7.out).here b8)
      have BX78 := Lib.hid (BX7.out.here b8)
      have AT8 := Lib.hid at8
      have AT78 := Lib.hid ((AT7.out.here BB7.out).here b8)
      have AT68 := Lib.hid ((AT67.out.here BB7.out).here b8)
      have B8 : Hid (Below w.heap.size w w8) := thence (thence (thence HB6.out B7.out (Nat.le_refl _)) BB7.out (Nat.le_refl _)) b8 (Nat.le_refl _)
      have bx8 := Bx.new w8 [.slice a8 n8 c8, .slice a8' 0 c8', .bool false] 37
      have bb8 : Below w8.heap.size w8 (w8.alloc (.cells [Value.slice a8 n8 c8, .slice a8' 0 c8', .bool false].toArray 37)) := (Below.refl _ _).alloc (Nat.le_refl _) _
      have BB8 := Lib.hid bb8
      obtain ⟨s0, s1, s2⟩ := BX38.out.three
      obtain ⟨v0, v1, v2⟩ := BX78.out.three
      have l8 := BX38.out.lt
      have l78 := BX78.out.lt
      have BX39 := Lib.hid (BX38.out.here bb8)
      have BX79 := Lib.hid (BX78.out.here bb8)
      have BX89 := Lib.hid bx8
      clear hn at8 b8 bx8 bb8 r0 r1 r2
      go_wp2_with fail
      refine (CR1.out _ _ _ _ _ _ _ (AT68.out.here BB8.out)).mono ?_
      rintro e w9 ⟨rfl, b9⟩
      obtain ⟨s0, s1, s2⟩ := (BX39.out.here b9).three
      have T9 := Lib.hid b9
      clear b9
      go_wp2_with fail
      refine (CR2.out _ _ _ _ _ _ _ ((AT68.out.here BB8.out).here T9.out)).mono ?_
      rintro e w10 ⟨rfl, b10⟩
      have T10 := Lib.hid (thence T9.out b10 (Nat.le_refl _))
      obtain ⟨s0, s1, s2⟩ := (BX79.out.here T10.out).three
      clear b10
      go_wp2_with fail
      refine (CR3.out _ _ _ _ _ _ _ ((AT78.out.here BB8.out).here T10.out)).mono ?_
      rintro e w11 ⟨rfl, b11⟩
      have T11 := Lib.hid (thence T10.out b11 (Nat.le_refl _))
      obtain ⟨s0, s1, s2⟩ := (BX89.out.here T11.out).three
      clear b11
      go_wp2_with fail
      refine (CR4.out _ _ _ _ _ _ _ ((AT8.out.here BB8.out).here T11.out)).mono ?_
      rintro e w12 ⟨rfl, b12⟩
      have T12 := Lib.hid (thence T11.out b12 (Nat.le_refl _))
      obtain ⟨s0, s1, s2⟩ := (BX89.out.here T12.out).three
      clear b12
      go_wp2_with fail
      go_ret
      exact ⟨rfl, thence (thence B8.out BB8.out (Nat.le_refl _)) T12.out (Nat.le_refl _)⟩
  · go_simp
    have HG0 : Hid (w.heap.size ≤ W2.heap.size) := HB2.out.size
    refine hKq.out _ _ ((BX1.out.drew.alloc _).three) (fun hHeld => ?_)
    clear hKq Kq
    (try simp only [Act.put, List.setIfInBounds_toArray, List.set_cons_zero, List.set_cons_succ])
    refine PX.wpAnyX_one (i := 1) (o := ?_) (by kernel_rfl) ?_ (fun Kq hKq => ?_)
    rotate_left
    · simp only [List.getElem?_toArray, List.getElem?_cons_succ, List.getElem?_cons_zero]; rfl
    go_simp
    refine (CF.out _).mono ?_
    rintro e w5 ⟨g5, rfl, hg5, r5, b5⟩
    have B5 : Hid (Below W2.heap.size W2 w5) := thence (((Below.refl W2.heap.size W2).drew.alloc (Nat.le_refl _) (.cells #[.slice none 0 0, .slice none 0 0, .bool false] 37))) b5 (Nat.le_refl _)
    have R5 := Lib.hid r5
    have b5' := Lib.hid b5
    clear b5 r5 hg5
    go_wp2_with fail
    refine hKq.out _ _ ((BX1.out.here B5.out).three) (fun hHeld => ?_)
    clear hKq Kq
    (try simp only [Act.put, List.setIfInBounds_toArray, List.set_cons_zero, List.set_cons_succ])
    refine PX.wpAnyX_one (i := 2) (o := ?_) (by kernel_rfl) ?_ (fun Kq hKq => ?_)
    rotate_left
    · simp only [List.getElem?_toArray, List.getElem?_cons_succ, List.getElem?_cons_zero]; rfl
    go_simp
    refine (CW.out _ _ _ _ _ _ _ _ _ _ (AT2.out.here (B5.out)) (R5.out)).mono ?_
    intro e w6 hn
    obtain ⟨a6, n6, c6, a6', n6', c6', rfl, od6, at6, b6⟩ := hn.open
    rw [e1]
    have OD6 := Lib.hid od6
    have BX6 : Hid (Bx w6 (W2.heap.size) [.slice none 0 0, .slice none 0 0, .bool false]) := ((Bx.new W2.drew [.slice none 0 0, .slice none 0 0, .bool false] 37).here b5'.out).here b6
    have HG6 : Hid (W2.heap.size < _) := ((Bx.new W2.drew [.slice none 0 0, .slice none 0 0, .bool false] 37).here b5'.out).lt
    have B6 : Hid (Below W2.heap.size W2 w6) := thence (B5.out) b6 (Nat.le_refl _)
    have A6 := Lib.hid at6
    have b6' := Lib.hid b6
    clear hn at6 b6 od6
    obtain ⟨z0, z1, z2⟩ := BX6.out.three
    have zf0 := BX6.out.frozen 0
    have zf1 := BX6.out.frozen 1
    have zf2 := BX6.out.frozen 2
    go_wp2_with fail
    have NE1 : Hid (W2.heap.size ≠ w1.heap.size) := Nat.ne_of_gt (Nat.lt_of_lt_of_le BX1.out.lt (Nat.le_refl _))
    refine hKq.out _ _ ((BX1.out.here B6.out).three) (fun hHeld => ?_)
    clear hKq Kq
    (try simp only [Act.put, List.setIfInBounds_toArray, List.set_cons_zero, List.set_cons_succ])
    refine PX.wpAnyX_take (i := 3) (oi := ?_) (v := ?_) ?_ (by kernel_rfl) (by kernel_rfl) (by kernel_rfl) (by kernel_rfl) (by kernel_rfl) (fun _ _ _ h => h) (Or.inl ⟨?_, ?_⟩) (by assumption) ?_
    rotate_left 2
    · simp only [List.getElem?_toArray, List.getElem?_cons_succ, List.getElem?_cons_zero]; rfl
    · rfl
    · intro w hSw; (try dsimp only at hSw); go_simp <;> with_reducible rfl
    (try simp only [Act.put, List.setIfInBounds_toArray, List.set_cons_zero, List.set_cons_succ])
    refine PX.wpAnyX_take (i := 4) (oi := ?_) (v := ?_) ?_ (by kernel_rfl) (by kernel_rfl) (by kernel_rfl) (by kernel_rfl) (by kernel_rfl) (fun _ _ _ h => h) (Or.inl ⟨?_, ?_⟩) (by assumption) ?_
    rotate_left 2
    · simp only [List.getElem?_toArray, List.getElem?_cons_succ, List.getElem?_cons_zero]; rfl
    · rfl
    · intro w hSw; (try dsimp only at hSw); go_simp <;> with_reducible rfl
    (try simp only [Act.put, List.setIfInBounds_toArray, List.set_cons_zero, List.set_cons_succ])
    refine PX.wpAnyX_take (i := 5) (oi := ?_) (v := ?_) ?_ (by kernel_rfl) (by kernel_rfl) (by kernel_rfl) (by kernel_rfl) (by kernel_rfl) (fun _ _ _ h => h) (Or.inl ⟨?_, ?_⟩) (by assumption) ?_
    rotate_left 2
    · simp only [List.getElem?_toArray, List.getElem?_cons_succ, List.getElem?_cons_zero]; rfl
    · rfl
    · intro w hSw; (try dsimp only at hSw); go_simp <;> with_reducible rfl
    (try simp only [Act.put, List.setIfInBounds_toArray, List.set_cons_zero, List.set_cons_succ])
    refine PX.wpAnyX_one (i := 7) (o := ?_) (by kernel_rfl) ?_ (fun Kq hKq => ?_)
    rotate_left
    · simp only [List.getElem?_toArray, List.getElem?_cons_succ, List.getElem?_cons_zero]; rfl
    go_simp
    refine hKq.out _ _ ((((BX1.out.here B6.out).other _ (NE1.out) _).other _ (NE1.out) _).other _ (NE1.out) _ |>.three) (fun hHeld => ?_)
    clear hKq Kq
    (try simp only [Act.put, List.setIfInBounds_toArray, List.set_cons_zero, List.set_cons_succ])
    refine PX.wpAnyX_last (o := ?_) (by kernel_rfl) ?_ (fun Kq hKq => ?_)
    rotate_left
    · simp only [List.getElem?_toArray, List.getElem?_cons_succ, List.getElem?_cons_zero]; rfl
    go_simp
    refine hKq.out _ _ ?_
    clear hKq Kq
    (try simp only [Act.put, List.setIfInBounds_toArray, List.set_cons_zero, List.set_cons_succ])
    refine PX.wpAnyX_done (by kernel_rfl) ?_ _
    refine NoPanic.normal ?_
    have BX3 : Hid (Bx (((w6.setCell ⟨W2.heap.size, 0, none⟩ (.slice a6 n6 c6)).setCell ⟨W2.heap.size, 1, none⟩ (.slice a6' n6' c6')).setCell ⟨W2.heap.size, 2, none⟩ (.bool false)) (W2.heap.size) [.slice a6 n6 c6, .slice a6' n6' c6', .bool false]) := ((BX6.out.set 0 _).set 1 _).set 2 _
    have AT6 := Lib.hid (DevAt.own3 OD6.out (W2.heap.size) HG6.out (.slice a6 n6 c6) (.slice a6' n6' c6') (.bool false))
    have HB6 : Hid (Below w.heap.size w (((w6.setCell ⟨W2.heap.size, 0, none⟩ (.slice a6 n6 c6)).setCell ⟨W2.heap.size, 1, none⟩ (.slice a6' n6' c6')).setCell ⟨W2.heap.size, 2, none⟩ (.bool false))) := (((thence HB2.out B6.out (Nat.le_refl _)).setCell (p := ⟨W2.heap.size, 0, none⟩) HG0.out _).setCell (p := ⟨W2.heap.size, 1, none⟩) HG0.out _).setCell (p := ⟨W2.heap.size, 2, none⟩) HG0.out _
    generalize (((w6.setCell ⟨W2.heap.size, 0, none⟩ (.slice a6 n6 c6)).setCell ⟨W2.heap.size, 1, none⟩ (.slice a6' n6' c6')).setCell ⟨W2.heap.size, 2, none⟩ (.bool false)) = W6 at *
    generalize W2.heap.size = G6 at *
    obtain ⟨p0, p1, p2⟩ := BX3.out.three
    go_wp2_with fail
    refine (CL.out _ _ _ _ _ _ _ AT6.out).mono ?_
    intro e w7 hn
    obtain ⟨a7, n7, c7, a7', n7', c7', rfl, -, at7, b7⟩ := hn.open
    rw [e2]
    have B7 := Lib.hid b7
    have BX37 := Lib.hid (BX3.out.here b7)
    have AT67 := Lib.hid (AT6.out.here b7)
    have AT7 := Lib.hid at7
    obtain ⟨r0, r1, r2⟩ := BX37.out.three
    have l7 := BX37.out.lt
    have bx7 := Bx.new w7 [.slice a7 n7 c7, .slice a7' n7' c7', .bool false] 37
    have bb7 : Below w7.heap.size w7 (w7.alloc (.cells [Value.slice a7 n7 c7, .slice a7' n7' c7', .bool false].toArray 37)) := (Below.refl _ _).alloc (Nat.le_refl _) _
    have BX7 := Lib.hid bx7
    have BB7 := Lib.hid bb7
    clear hn at7 b7 bx7 bb7 p0 p1 p2
    go_wp2_with fail
    refine (CU.out _ _ _ _ _ _ _ (AT67.out.here BB7.out)).mono ?_
    intro e w8 hn
    obtain ⟨a8, n8, c8, a8', n8', c8', rfl, -, at8, b8⟩ := hn.open
    rw [e3]
    have hn8 : n8' = 0 := by rw [at8.long.2]; exact wC
    subst hn8
    have BX38 := Lib.hid ((BX37.out.here BB7.out).here b8)
    have BX78 := Lib.hid (BX7.out.here b8)
    have AT8 := Lib.hid at8
    have AT78 := Lib.hid ((AT7.out.here BB7.out).here b8)
    have AT68 := Lib.hid ((AT67.out.here BB7.out).here b8)
    have B8 : Hid (Below w.heap.size w w8) := thence (thence (thence HB6.out B7.out (Nat.le_refl _)) BB7.out (Nat.le_refl _)) b8 (Nat.le_refl _)
    have bx8 := Bx.new w8 [.slice a8 n8 c8, .slice a8' 0 c8', .bool false] 37
    have bb8 : Below w8.heap.size w8 (w8.alloc (.cells [Value.slice a8 n8 c8, .slice a8' 0 c8', .bool false].toArray 37)) := (Below.refl _ _).alloc (Nat.le_refl _) _
    have BB8 := Lib.hid bb8
    obtain ⟨s0, s1, s2⟩ := BX38.out.three
    obtain ⟨v0, v1, v2⟩ := BX78.out.three
    have l8 := BX38.out.lt
    have l78 := BX78.out.lt
    have BX39 := Lib.hid (BX38.out.here bb8)
    have BX79 := Lib.hid (BX78.out.here bb8)
    have BX89 := Lib.hid bx8
    clear hn at8 b8 bx8 bb8 r0 r1 r2
    go_wp2_with fail
    refine (CR1.out _ _ _ _ _ _ _ (AT68.out.here BB8.out)).mono ?_
    rintro e w9 ⟨rfl, b9⟩
    obtain ⟨s0, s1, s2⟩ := (BX39.out.here b9).three
    have T9 := Lib.hid b9
    clear b9
    go_wp2_with fail
    refine (CR2.out _ _ _ _ _ _ _ ((AT68.out.here BB8.out).here T9.out)).mono ?_
    rintro e w10 ⟨rfl, b10⟩
    have T10 := Lib.hid (thence T9.out b10 (Nat.le_refl _))
    obtain ⟨s0, s1, s2⟩ := (BX79.out.here T10.out).three
    clear b10
    go_wp2_with fail
    refine (CR3.out _ _ _ _ _ _ _ ((AT78.out.here BB8.out).here T10.out)).mono ?_
    rintro e w11 ⟨rfl, b11⟩
    have T11 := Lib.hid (thence T10.out b11 (Nat.le_refl _))
    obtain ⟨s0, s1, s2⟩ := (BX89.out.here T11.out).three
    clear b11
    go_wp2_with fail
    refine (CR4.out _ _ _ _ _ _ _ ((AT8.out.here BB8.out).here T11.out)).mono ?_
    rintro e w12 ⟨rfl, b12⟩
    have T12 := Lib.hid (thence T11.out b12 (Nat.le_refl _))
    obtain ⟨s0, s1, s2⟩ := (BX89.out.here T12.out).three
    clear b12
    go_wp2_with fail
    go_ret
    exact ⟨rfl, thence (thence B8.out BB8.out (Nat.le_refl _)) T12.out (Nat.le_refl _)⟩
end Go.Proofs.Ytnhfkfihlkbkfaa.PW
