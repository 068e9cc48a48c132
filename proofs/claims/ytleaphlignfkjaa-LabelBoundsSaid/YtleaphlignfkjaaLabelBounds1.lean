/-
  Layer 9's laws, given what the program's calls answer.
-/
import Derived.Test.YtleaphlignfkjaaLabelLaws
namespace Go.Proofs.Ytleaphlignfkjaa.PW
open Go.RowKit
open SK (Cfg)
open LB (Lab)
set_option linter.unusedVariables false
set_option linter.unusedSimpArgs false
set_option maxRecDepth 100000

set_option maxHeartbeats 8000000 in
theorem labelBounds_walk (I : LabelIs) (id ev : Nat) (mem chunk rows log me lost done : Int) (op : Bool) (me2 lost2 done2 : Int) (w : World) (hid : id < 4294967296) :
    Calls Try.prog 9 #[.agg #[.int .u32 (id : Int), .int .u32 (ev : Int), .int .i64 mem, .int .i64 chunk, .int .i64 rows, .int .i64 log, .int .i64 me, .int .i64 lost, .int .i64 done, .bool op], .int .i64 me2, .int .i64 lost2, .int .i64 done2] w fun e w' => e = .returned (.bool true) ∧ Below w.heap.size w w' := by
  have CA : Hid (∀ w1, Calls Try.prog 13 #[] w1 fun e w' => e = .returned (.bool true) ∧ Below w1.heap.size w1 w') := alive9_any I
  have B0 : Hid (Below w.heap.size w (w.alloc (.cells #[.int .u32 (id : Int), .int .u32 (ev : Int), .int .i64 mem, .int .i64 chunk, .int .i64 rows, .int .i64 log, .int .i64 me, .int .i64 lost, .int .i64 done, .bool op] 28))) := (Below.refl _ _).alloc (Nat.le_refl _) _
  have BX := Lib.hid (Bx.new w [.int .u32 (id : Int), .int .u32 (ev : Int), .int .i64 mem, .int .i64 chunk, .int .i64 rows, .int .i64 log, .int .i64 me, .int .i64 lost, .int .i64 done, .bool op] 28)
  cases hm : Lab.may ⟨id, ev, mem, chunk, rows, log, 0, -1, 0, op⟩ with
  | false =>
    have CK : Hid (∀ w1, Calls Try.prog 14 #[.agg #[.int .u32 (id : Int), .int .u32 (ev : Int), .int .i64 mem, .int .i64 chunk, .int .i64 rows, .int .i64 log, .int .i64 0, .int .i64 (-1), .int .i64 0, .bool op]] w1 fun e w' => e = .returned (.int .i64 8) ∧ Below w1.heap.size w1 w') := fun w1 => by have := I.check id ev mem chunk rows log 0 (-1) 0 op w1 hid; rw [LB.code_no hm] at this; exact this
    clear hm
    go_enter Try.func9, Try.ntmps9
    go_wp2_with fail
    replace BX : Hid (Bx (w.alloc (.cells #[.int .u32 (id : Int), .int .u32 (ev : Int), .int .i64 mem, .int .i64 chunk, .int .i64 rows, .int .i64 log, .int .i64 me, .int .i64 lost, .int .i64 done, .bool op] 28)) w.heap.size [.int .u32 (id : Int), .int .u32 (ev : Int), .int .i64 mem, .int .i64 chunk, .int .i64 rows, .int .i64 log, .int .i64 me, .int .i64 lost, .int .i64 done, .bool op]) := BX
    generalize w.alloc (.cells #[.int .u32 (id : Int), .int .u32 (ev : Int), .int .i64 mem, .int .i64 chunk, .int .i64 rows, .int .i64 log, .int .i64 me, .int .i64 lost, .int .i64 done, .bool op] 28) = W0 at *
    obtain ⟨c0, c1, c2, c3, c4, c5, c6, c7, c8, c9⟩ := BX.out.ten
    have ltBX := BX.out.lt
    (with_reducible refine (CA.out _).mono ?_)
    rintro e w1 ⟨rfl, b1⟩
    clear c0 c1 c2 c3 c4 c5 c6 c7 c8 c9 ltBX
    replace BX := Lib.hid (BX.out.here b1)
    have B1 := Lib.hid (thence B0.out b1 (Nat.le_refl _))
    clear b1 B0
    obtain ⟨c0, c1, c2, c3, c4, c5, c6, c7, c8, c9⟩ := BX.out.ten
    have ltBX := BX.out.lt
    obtain ⟨y0, y1, y2, y3, y4, y5, y6, y7, y8, y9⟩ := BX.out.froz10
    have BZ : Hid (Bx (((w1.setCell ⟨w.heap.size, 6, none⟩ (.int .i64 0)).setCell ⟨w.heap.size, 7, none⟩ (.int .i64 (-1))).setCell ⟨w.heap.size, 8, none⟩ (.int .i64 0)) w.heap.size [.int .u32 (id : Int), .int .u32 (ev : Int), .int .i64 mem, .int .i64 chunk, .int .i64 rows, .int .i64 log, .int .i64 0, .int .i64 (-1), .int .i64 0, .bool op]) := ((BX.out.set 6 (.int .i64 0)).set 7 (.int .i64 (-1))).set 8 (.int .i64 0)
    have B2 : Hid (Below w.heap.size w (((w1.setCell ⟨w.heap.size, 6, none⟩ (.int .i64 0)).setCell ⟨w.heap.size, 7, none⟩ (.int .i64 (-1))).setCell ⟨w.heap.size, 8, none⟩ (.int .i64 0))) := ((B1.out.setCell (Nat.le_refl _) _).setCell (Nat.le_refl _) _).setCell (Nat.le_refl _) _
    go_wp2_with fail
    clear c0 c1 c2 c3 c4 c5 c6 c7 c8 c9 y0 y1 y2 y3 y4 y5 y6 y7 y8 y9 ltBX B1 BX
    (with_reducible refine (CK.out _).mono ?_)
    rintro e w3 ⟨rfl, b3⟩
    have B3 := Lib.hid (B2.out.trans (b3.mono B2.out.size))
    clear b3
    go_wp2_with fail
    go_ret
    exact ⟨rfl, B3.out⟩
  | true =>
    have CK : Hid (∀ w1, Calls Try.prog 14 #[.agg #[.int .u32 (id : Int), .int .u32 (ev : Int), .int .i64 mem, .int .i64 chunk, .int .i64 rows, .int .i64 log, .int .i64 0, .int .i64 (-1), .int .i64 0, .bool op]] w1 fun e w' => e = .returned (.int .i64 0) ∧ Below w1.heap.size w1 w') := fun w1 => by have := I.check id ev mem chunk rows log 0 (-1) 0 op w1 hid; rw [LB.code_yes hm] at this; exact this
    have KX : Hid (∀ w1, Calls Try.prog 14 #[.agg #[.int .u32 (id : Int), .int .u32 (ev : Int), .int .i64 mem, .int .i64 chunk, .int .i64 rows, .int .i64 log, .int .i64 me2, .int .i64 (-1), .int .i64 0, .bool op]] w1 fun e w' => e = .returned (.int .i64 ((Lab.code ⟨id, ev, mem, chunk, rows, log, me2, -1, 0, op⟩ : Nat) : Int)) ∧ Below w1.heap.size w1 w') := fun w1 => I.check id ev mem chunk rows log me2 (-1) 0 op w1 hid
    have KY : Hid (∀ w1, Calls Try.prog 14 #[.agg #[.int .u32 (id : Int), .int .u32 (ev : Int), .int .i64 mem, .int .i64 chunk, .int .i64 rows, .int .i64 log, .int .i64 0, .int .i64 lost2, .int .i64 0, .bool op]] w1 fun e w' => e = .returned (.int .i64 ((Lab.code ⟨id, ev, mem, chunk, rows, log, 0, lost2, 0, op⟩ : Nat) : Int)) ∧ Below w1.heap.size w1 w') := fun w1 => I.check id ev mem chunk rows log 0 lost2 0 op w1 hid
    have KZ : Hid (∀ w1, Calls Try.prog 14 #[.agg #[.int .u32 (id : Int), .int .u32 (ev : Int), .int .i64 mem, .int .i64 chunk, .int .i64 rows, .int .i64 log, .int .i64 0, .int .i64 0, .int .i64 done2, .bool op]] w1 fun e w' => e = .returned (.int .i64 ((Lab.code ⟨id, ev, mem, chunk, rows, log, 0, 0, done2, op⟩ : Nat) : Int)) ∧ Below w1.heap.size w1 w') := fun w1 => I.check id ev mem chunk rows log 0 0 done2 op w1 hid
    have hp := LB.may_iff.1 hm
    have hc0 : ∀ x : Lab, (((x.code : Nat) : Int) == 0) = x.may := fun x => by
      rcases hx : x.may with _ | _
      · rw [LB.code_no hx]; rfl
      · rw [LB.code_yes hx]; rfl
    have ex := hc0 ⟨id, ev, mem, chunk, rows, log, me2, -1, 0, op⟩
    have ey := hc0 ⟨id, ev, mem, chunk, rows, log, 0, lost2, 0, op⟩
    have ez := hc0 ⟨id, ev, mem, chunk, rows, log, 0, 0, done2, op⟩
    obtain ⟨p1, p2, p3, p4, -⟩ := hp
    dsimp only at p1 p2 p3 p4
    have hst : 1 ≤ chunk * rows ∧ chunk * rows ≤ 64 := SK.stripes_bd p1
    have mx : Lab.may ⟨id, ev, mem, chunk, rows, log, me2, -1, 0, op⟩ = (decide (0 ≤ me2) && decide (me2 < mem)) := by
      rw [Bool.eq_iff_iff, LB.may_iff, Bool.and_eq_true, decide_eq_true_eq, decide_eq_true_eq]
      exact ⟨fun h => ⟨h.2.2.1, h.2.2.2.1⟩, fun h => ⟨p1, p2, h.1, h.2, .inl ⟨rfl, rfl⟩⟩⟩
    have my : Lab.may ⟨id, ev, mem, chunk, rows, log, 0, lost2, 0, op⟩ = (decide (-1 ≤ lost2) && decide (lost2 < mem)) := by
      rw [Bool.eq_iff_iff, LB.may_iff, Bool.and_eq_true, decide_eq_true_eq, decide_eq_true_eq]
      refine ⟨fun h => ?_, fun h => ⟨p1, p2, p3, p4, ?_⟩⟩
      · rcases h.2.2.2.2 with h | h <;> dsimp only at h <;> omega
      · show lost2 = -1 ∧ (0 : Int) = 0 ∨ 0 ≤ lost2 ∧ lost2 < mem ∧ 0 ≤ (0 : Int) ∧ 0 ≤ chunk * rows
        omega
    have mz : Lab.may ⟨id, ev, mem, chunk, rows, log, 0, 0, done2, op⟩ = (decide (0 ≤ done2) && decide (done2 ≤ chunk * rows)) := by
      rw [Bool.eq_iff_iff, LB.may_iff, Bool.and_eq_true, decide_eq_true_eq, decide_eq_true_eq]
      refine ⟨fun h => ?_, fun h => ⟨p1, p2, p3, p4, .inr ⟨Int.le_refl _, p4, h.1, h.2⟩⟩⟩
      rcases h.2.2.2.2 with h | h <;> dsimp only at h <;> omega
    rw [mx] at ex
    rw [my] at ey
    rw [mz] at ez
    have hw1 : IntKind.i64.wrap (chunk * rows) = chunk * rows := IntWalk.i64_in _ (by omega)
    have HW := Lib.hid hw1
    have EX := Lib.hid ex
    have EY := Lib.hid ey
    have EZ := Lib.hid ez
    have HST := Lib.hid hst
    clear hm mx my mz hc0 p1 p2 p3 p4 hst hw1 ex ey ez
    generalize Lab.code ⟨id, ev, mem, chunk, rows, log, me2, -1, 0, op⟩ = cx at *
    generalize Lab.code ⟨id, ev, mem, chunk, rows, log, 0, lost2, 0, op⟩ = cy at *
    generalize Lab.code ⟨id, ev, mem, chunk, rows, log, 0, 0, done2, op⟩ = cz at *
    go_enter Try.func9, Try.ntmps9
    go_wp2_with fail
    replace BX : Hid (Bx (w.alloc (.cells #[.int .u32 (id : Int), .int .u32 (ev : Int), .int .i64 mem, .int .i64 chunk, .int .i64 rows, .int .i64 log, .int .i64 me, .int .i64 lost, .int .i64 done, .bool op] 28)) w.heap.size [.int .u32 (id : Int), .int .u32 (ev : Int), .int .i64 mem, .int .i64 chunk, .int .i64 rows, .int .i64 log, .int .i64 me, .int .i64 lost, .int .i64 done, .bool op]) := BX
    generalize w.alloc (.cells #[.int .u32 (id : Int), .int .u32 (ev : Int), .int .i64 mem, .int .i64 chunk, .int .i64 rows, .int .i64 log, .int .i64 me, .int .i64 lost, .int .i64 done, .bool op] 28) = W0 at *
    obtain ⟨c0, c1, c2, c3, c4, c5, c6, c7, c8, c9⟩ := BX.out.ten
    have ltBX := BX.out.lt
    (with_reducible refine (CA.out _).mono ?_)
    rintro e w1 ⟨rfl, b1⟩
    clear c0 c1 c2 c3 c4 c5 c6 c7 c8 c9 ltBX
    replace BX := Lib.hid (BX.out.here b1)
    have B1 := Lib.hid (thence B0.out b1 (Nat.le_refl _))
    clear b1 B0
    obtain ⟨c0, c1, c2, c3, c4, c5, c6, c7, c8, c9⟩ := BX.out.ten
    have ltBX := BX.out.lt
    obtain ⟨y0, y1, y2, y3, y4, y5, y6, y7, y8, y9⟩ := BX.out.froz10
    have BZ : Hid (Bx (((w1.setCell ⟨w.heap.size, 6, none⟩ (.int .i64 0)).setCell ⟨w.heap.size, 7, none⟩ (.int .i64 (-1))).setCell ⟨w.heap.size, 8, none⟩ (.int .i64 0)) w.heap.size [.int .u32 (id : Int), .int .u32 (ev : Int), .int .i64 mem, .int .i64 chunk, .int .i64 rows, .int .i64 log, .int .i64 0, .int .i64 (-1), .int .i64 0, .bool op]) := ((BX.out.set 6 (.int .i64 0)).set 7 (.int .i64 (-1))).set 8 (.int .i64 0)
    have B2 : Hid (Below w.heap.size w (((w1.setCell ⟨w.heap.size, 6, none⟩ (.int .i64 0)).setCell ⟨w.heap.size, 7, none⟩ (.int .i64 (-1))).setCell ⟨w.heap.size, 8, none⟩ (.int .i64 0))) := ((B1.out.setCell (Nat.le_refl _) _).setCell (Nat.le_refl _) _).setCell (Nat.le_refl _) _
    go_wp2_with fail
    clear c0 c1 c2 c3 c4 c5 c6 c7 c8 c9 y0 y1 y2 y3 y4 y5 y6 y7 y8 y9 ltBX B1 BX
    (with_reducible refine (CK.out _).mono ?_)
    rintro e W3 ⟨rfl, b3⟩
    have B3 := Lib.hid (B2.out.trans (b3.mono B2.out.size))
    have BX := Lib.hid (BZ.out.here b3)
    obtain ⟨c0, c1, c2, c3, c4, c5, c6, c7, c8, c9⟩ := BX.out.ten
    have ltBX := BX.out.lt
    clear b3 BZ B2
    go_wp2_with fail
    refine wp_region_noPanic ?_
    refine PX.wp_region_y (fun w' => Below W3.heap.size W3 w') [] (by kernel_rfl) (Below.refl _ _).drew (fun hHeld => ?_)
    refine PX.wpAnyY_take (i := 0) (oi := ?_) (v := ?_) ?_ (by kernel_rfl) (by kernel_rfl) (by kernel_rfl) (by kernel_rfl) (by kernel_rfl) (fun _ _ _ h => h) (Or.inl ⟨?_, ?_⟩) (by assumption) ?_
    rotate_left 2
    · simp only [List.getElem?_toArray, List.getElem?_cons_succ, List.getElem?_cons_zero]; rfl
    · rfl
    · intro w hSw; (try dsimp only at hSw); have hC := fun (b o : Nat) (h : b < W3.heap.size) => Below.cell hSw (p := ⟨b, o, none⟩) h; go_simp <;> with_reducible rfl
    (try simp only [Act.put, List.setIfInBounds_toArray, List.set_cons_zero, List.set_cons_succ])
    refine PX.wpAnyY_take (i := 1) (oi := ?_) (v := ?_) ?_ (by kernel_rfl) (by kernel_rfl) (by kernel_rfl) (by kernel_rfl) (by kernel_rfl) (fun _ _ _ h => h) (Or.inl ⟨?_, ?_⟩) (by assumption) ?_
    rotate_left 2
    · simp only [List.getElem?_toArray, List.getElem?_cons_succ, List.getElem?_cons_zero]; rfl
    · rfl
    · intro w hSw; (try dsimp only at hSw); have hC := fun (b o : Nat) (h : b < W3.heap.size) => Below.cell hSw (p := ⟨b, o, none⟩) h; go_simp <;> with_reducible rfl
    (try simp only [Act.put, List.setIfInBounds_toArray, List.set_cons_zero, List.set_cons_succ])
    refine PX.wpAnyY_take (i := 2) (oi := ?_) (v := ?_) ?_ (by kernel_rfl) (by kernel_rfl) (by kernel_rfl) (by kernel_rfl) (by kernel_rfl) (fun _ _ _ h => h) (Or.inl ⟨?_, ?_⟩) (by assumption) ?_
    rotate_left 2
    · simp only [List.getElem?_toArray, List.getElem?_cons_succ, List.getElem?_cons_zero]; rfl
    · rfl
    · intro w hSw; (try dsimp only at hSw); have hC := fun (b o : Nat) (h : b < W3.heap.size) => Below.cell hSw (p := ⟨b, o, none⟩) h; go_simp <;> with_reducible rfl
    (try simp only [Act.put, List.setIfInBounds_toArray, List.set_cons_zero, List.set_cons_succ])
    refine PX.wpAnyY_three (i := 3) (j := 4) (k := 5) (o := ?_) (o' := ?_) (o'' := ?_) (by kernel_rfl) ?_ ?_ ?_ (fun Kq hKq => ?_) (fun Kq hKq => ?_) (fun Kq hKq => ?_)
    rotate_left 3
    · simp only [List.getElem?_toArray, List.getElem?_cons_succ, List.getElem?_cons_zero]; rfl
    · simp only [List.getElem?_toArray, List.getElem?_cons_succ, List.getElem?_cons_zero]; rfl
    · simp only [List.getElem?_toArray, List.getElem?_cons_succ, List.getElem?_cons_zero]; rfl
    · go_simp
      have hl : Below W3.heap.size W3 (W3.alloc (.cells #[.int .u32 0, .int .u32 0, .int .i64 0, .int .i64 0, .int .i64 0, .int .i64 0, .int .i64 0, .int .i64 0, .int .i64 0, .bool false] 28)) := (Below.refl _ _).alloc (Nat.le_refl _) _
      have Hx : Hid (Below W3.heap.size W3 (W3.alloc (.cells #[.int .u32 0, .int .u32 0, .int .i64 0, .int .i64 0, .int .i64 0, .int .i64 0, .int .i64 0, .int .i64 0, .int .i64 0, .bool false] 28)).drew) := (thence (Below.refl _ _) hl (Nat.le_refl _)).drew
      have Px : Hid (Bx (W3.alloc (.cells #[.int .u32 0, .int .u32 0, .int .i64 0, .int .i64 0, .int .i64 0, .int .i64 0, .int .i64 0, .int .i64 0, .int .i64 0, .bool false] 28)).drew W3.heap.size [.int .u32 0, .int .u32 0, .int .i64 0, .int .i64 0, .int .i64 0, .int .i64 0, .int .i64 0, .int .i64 0, .int .i64 0, .bool false]) := Bx.new W3 [.int .u32 0, .int .u32 0, .int .i64 0, .int .i64 0, .int .i64 0, .int .i64 0, .int .i64 0, .int .i64 0, .int .i64 0, .bool false] 28
      have gx0 : Hid (W3.heap.size ≤ W3.heap.size) := Nat.le_refl _
      clear hl
      generalize (W3.alloc (.cells #[.int .u32 0, .int .u32 0, .int .i64 0, .int .i64 0, .int .i64 0, .int .i64 0, .int .i64 0, .int .i64 0, .int .i64 0, .bool false] 28)).drew = ax at *
      obtain ⟨gx, hG⟩ : ∃ gb, W3.heap.size = gb := ⟨_, rfl⟩
      rw [hG] at Px ⊢
      replace gx0 : Hid (W3.heap.size ≤ gx) := hG ▸ gx0.out
      clear hG
      have ltx := Px.out.lt
      refine hKq.out _ _ (Hx.out) (fun hHeld => ?_)
      clear hKq Kq
      (try simp only [Act.put, List.setIfInBounds_toArray, List.set_cons_zero, List.set_cons_succ])
      refine PX.wpAnyY_two (i := 4) (j := 5) (o := ?_) (o' := ?_) (by kernel_rfl) ?_ ?_ (fun Kq hKq => ?_) (fun Kq hKq => ?_)
      rotate_left 2
      · simp only [List.getElem?_toArray, List.getElem?_cons_succ, List.getElem?_cons_zero]; rfl
      · simp only [List.getElem?_toArray, List.getElem?_cons_succ, List.getElem?_cons_zero]; rfl
      · go_simp
        have hl : Below ax.heap.size ax (ax.alloc (.cells #[.int .u32 0, .int .u32 0, .int .i64 0, .int .i64 0, .int .i64 0, .int .i64 0, .int .i64 0, .int .i64 0, .int .i64 0, .bool false] 28)) := (Below.refl _ _).alloc (Nat.le_refl _) _
        have Hy : Hid (Below W3.heap.size W3 (ax.alloc (.cells #[.int .u32 0, .int .u32 0, .int .i64 0, .int .i64 0, .int .i64 0, .int .i64 0, .int .i64 0, .int .i64 0, .int .i64 0, .bool false] 28))) := (thence hHeld hl (Nat.le_refl _))
        have Py : Hid (Bx (ax.alloc (.cells #[.int .u32 0, .int .u32 0, .int .i64 0, .int .i64 0, .int .i64 0, .int .i64 0, .int .i64 0, .int .i64 0, .int .i64 0, .bool false] 28)) ax.heap.size [.int .u32 0, .int .u32 0, .int .i64 0, .int .i64 0, .int .i64 0, .int .i64 0, .int .i64 0, .int .i64 0, .int .i64 0, .bool false]) := Bx.new ax [.int .u32 0, .int .u32 0, .int .i64 0, .int .i64 0, .int .i64 0, .int .i64 0, .int .i64 0, .int .i64 0, .int .i64 0, .bool false] 28
        have gy0 : Hid (W3.heap.size ≤ ax.heap.size) := hHeld.size
        replace Px := Lib.hid (Px.out.here hl)
        have nxy : gx ≠ ax.heap.size := Nat.ne_of_lt ltx
        clear hl
        generalize (ax.alloc (.cells #[.int .u32 0, .int .u32 0, .int .i64 0, .int .i64 0, .int .i64 0, .int .i64 0, .int .i64 0, .int .i64 0, .int .i64 0, .bool false] 28)) = ay at *
        obtain ⟨gy, hG⟩ : ∃ gb, ax.heap.size = gb := ⟨_, rfl⟩
        rw [hG] at nxy
        rw [hG] at Py ⊢
        replace gy0 : Hid (W3.heap.size ≤ gy) := hG ▸ gy0.out
        clear hG
        clear ltx
        have ltx := Px.out.lt
        have lty := Py.out.lt
        refine hKq.out _ _ (Hy.out) (fun hHeld => ?_)
        clear hKq Kq
        (try simp only [Act.put, List.setIfInBounds_toArray, List.set_cons_zero, List.set_cons_succ])
        refine PX.wpAnyY_one (i := 5) (o := ?_) (by kernel_rfl) ?_ (fun Kq hKq => ?_)
        rotate_left
        · simp only [List.getElem?_toArray, List.getElem?_cons_succ, List.getElem?_cons_zero]; rfl
        go_simp
        have hl : Below ay.heap.size ay (ay.alloc (.cells #[.int .u32 0, .int .u32 0, .int .i64 0, .int .i64 0, .int .i64 0, .int .i64 0, .int .i64 0, .int .i64 0, .int .i64 0, .bool false] 28)) := (Below.refl _ _).alloc (Nat.le_refl _) _
        have Hz : Hid (Below W3.heap.size W3 (ay.alloc (.cells #[.int .u32 0, .int .u32 0, .int .i64 0, .int .i64 0, .int .i64 0, .int .i64 0, .int .i64 0, .int .i64 0, .int .i64 0, .bool false] 28))) := (thence hHeld hl (Nat.le_refl _))
        have Pz : Hid (Bx (ay.alloc (.cells #[.int .u32 0, .int .u32 0, .int .i64 0, .int .i64 0, .int .i64 0, .int .i64 0, .int .i64 0, .int .i64 0, .int .i64 0, .bool false] 28)) ay.heap.size [.int .u32 0, .int .u32 0, .int .i64 0, .int .i64 0, .int .i64 0, .int .i64 0, .int .i64 0, .int .i64 0, .int .i64 0, .bool false]) := Bx.new ay [.int .u32 0, .int .u32 0, .int .i64 0, .int .i64 0, .int .i64 0, .int .i64 0, .int .i64 0, .int .i64 0, .int .i64 0, .bool false] 28
        have gz0 : Hid (W3.heap.size ≤ ay.heap.size) := hHeld.size
        replace Px := Lib.hid (Px.out.here hl)
        have nxz : gx ≠ ay.heap.size := Nat.ne_of_lt ltx
        replace Py := Lib.hid (Py.out.here hl)
        have nyz : gy ≠ ay.heap.size := Nat.ne_of_lt lty
        clear hl
        generalize (ay.alloc (.cells #[.int .u32 0, .int .u32 0, .int .i64 0, .int .i64 0, .int .i64 0, .int .i64 0, .int .i64 0, .int .i64 0, .int .i64 0, .bool false] 28)) = az at *
        obtain ⟨gz, hG⟩ : ∃ gb, ay.heap.size = gb := ⟨_, rfl⟩
        rw [hG] at nxz
        rw [hG] at nyz
        rw [hG] at Pz ⊢
        replace gz0 : Hid (W3.heap.size ≤ gz) := hG ▸ gz0.out
        clear hG
        clear ltx
        clear lty
        have ltx := Px.out.lt
        have lty := Py.out.lt
        have ltz := Pz.out.lt
        obtain ⟨xc0, xc1, xc2, xc3, xc4, xc5, xc6, xc7, xc8, xc9⟩ := Px.out.ten
        obtain ⟨xf0, xf1, xf2, xf3, xf4, xf5, xf6, xf7, xf8, xf9⟩ := Px.out.froz10
        obtain ⟨yc0, yc1, yc2, yc3, yc4, yc5, yc6, yc7, yc8, yc9⟩ := Py.out.ten
        obtain ⟨yf0, yf1, yf2, yf3, yf4, yf5, yf6, yf7, yf8, yf9⟩ := Py.out.froz10
        obtain ⟨zc0, zc1, zc2, zc3, zc4, zc5, zc6, zc7, zc8, zc9⟩ := Pz.out.ten
        obtain ⟨zf0, zf1, zf2, zf3, zf4, zf5, zf6, zf7, zf8, zf9⟩ := Pz.out.froz10
        refine hKq.out _ _ (Hz.out) (fun hHeld => ?_)
        clear hKq Kq
        (try simp only [Act.put, List.setIfInBounds_toArray, List.set_cons_zero, List.set_cons_succ])
        refine PX.wpAnyY_one (i := 6) (o := ?_) (by kernel_rfl) ?_ (fun Kq hKq => ?_)
        rotate_left
        · simp only [List.getElem?_toArray, List.getElem?_cons_succ, List.getElem?_cons_zero]; rfl
        go_simp
        have Jx : Hid (Below W3.heap.size W3 ((((((((((az.setCell ⟨gx, 0, none⟩ (.int .u32 (id : Int))).setCell ⟨gx, 1, none⟩ (.int .u32 (ev : Int))).setCell ⟨gx, 2, none⟩ (.int .i64 mem)).setCell ⟨gx, 3, none⟩ (.int .i64 chunk)).setCell ⟨gx, 4, none⟩ (.int .i64 rows)).setCell ⟨gx, 5, none⟩ (.int .i64 log)).setCell ⟨gx, 6, none⟩ (.int .i64 0)).setCell ⟨gx, 7, none⟩ (.int .i64 (-1))).setCell ⟨gx, 8, none⟩ (.int .i64 0)).setCell ⟨gx, 9, none⟩ (.bool op))) := ((((((((((hHeld.setCell gx0.out (.int .u32 (id : Int))).setCell gx0.out (.int .u32 (ev : Int))).setCell gx0.out (.int .i64 mem)).setCell gx0.out (.int .i64 chunk)).setCell gx0.out (.int .i64 rows)).setCell gx0.out (.int .i64 log)).setCell gx0.out (.int .i64 0)).setCell gx0.out (.int .i64 (-1))).setCell gx0.out (.int .i64 0)).setCell gx0.out (.bool op))
        replace Py : Hid (Bx ((((((((((az.setCell ⟨gx, 0, none⟩ (.int .u32 (id : Int))).setCell ⟨gx, 1, none⟩ (.int .u32 (ev : Int))).setCell ⟨gx, 2, none⟩ (.int .i64 mem)).setCell ⟨gx, 3, none⟩ (.int .i64 chunk)).setCell ⟨gx, 4, none⟩ (.int .i64 rows)).setCell ⟨gx, 5, none⟩ (.int .i64 log)).setCell ⟨gx, 6, none⟩ (.int .i64 0)).setCell ⟨gx, 7, none⟩ (.int .i64 (-1))).setCell ⟨gx, 8, none⟩ (.int .i64 0)).setCell ⟨gx, 9, none⟩ (.bool op)) gy [.int .u32 0, .int .u32 0, .int .i64 0, .int .i64 0, .int .i64 0, .int .i64 0, .int .i64 0, .int .i64 0, .int .i64 0, .bool false]) := ((((((((((Py.out.other ⟨gx, 0, none⟩ nxy (.int .u32 (id : Int))).other ⟨gx, 1, none⟩ nxy (.int .u32 (ev : Int))).other ⟨gx, 2, none⟩ nxy (.int .i64 mem)).other ⟨gx, 3, none⟩ nxy (.int .i64 chunk)).other ⟨gx, 4, none⟩ nxy (.int .i64 rows)).other ⟨gx, 5, none⟩ nxy (.int .i64 log)).other ⟨gx, 6, none⟩ nxy (.int .i64 0)).other ⟨gx, 7, none⟩ nxy (.int .i64 (-1))).other ⟨gx, 8, none⟩ nxy (.int .i64 0)).other ⟨gx, 9, none⟩ nxy (.bool op))
        replace Pz : Hid (Bx ((((((((((az.setCell ⟨gx, 0, none⟩ (.int .u32 (id : Int))).setCell ⟨gx, 1, none⟩ (.int .u32 (ev : Int))).setCell ⟨gx, 2, none⟩ (.int .i64 mem)).setCell ⟨gx, 3, none⟩ (.int .i64 chunk)).setCell ⟨gx, 4, none⟩ (.int .i64 rows)).setCell ⟨gx, 5, none⟩ (.int .i64 log)).setCell ⟨gx, 6, none⟩ (.int .i64 0)).setCell ⟨gx, 7, none⟩ (.int .i64 (-1))).setCell ⟨gx, 8, none⟩ (.int .i64 0)).setCell ⟨gx, 9, none⟩ (.bool op)) gz [.int .u32 0, .int .u32 0, .int .i64 0, .int .i64 0, .int .i64 0, .int .i64 0, .int .i64 0, .int .i64 0, .int .i64 0, .bool false]) := ((((((((((Pz.out.other ⟨gx, 0, none⟩ nxz (.int .u32 (id : Int))).other ⟨gx, 1, none⟩ nxz (.int .u32 (ev : Int))).other ⟨gx, 2, none⟩ nxz (.int .i64 mem)).other ⟨gx, 3, none⟩ nxz (.int .i64 chunk)).other ⟨gx, 4, none⟩ nxz (.int .i64 rows)).other ⟨gx, 5, none⟩ nxz (.int .i64 log)).other ⟨gx, 6, none⟩ nxz (.int .i64 0)).other ⟨gx, 7, none⟩ nxz (.int .i64 (-1))).other ⟨gx, 8, none⟩ nxz (.int .i64 0)).other ⟨gx, 9, none⟩ nxz (.bool op))
        replace Px : Hid (Bx ((((((((((az.setCell ⟨gx, 0, none⟩ (.int .u32 (id : Int))).setCell ⟨gx, 1, none⟩ (.int .u32 (ev : Int))).setCell ⟨gx, 2, none⟩ (.int .i64 mem)).setCell ⟨gx, 3, none⟩ (.int .i64 chunk)).setCell ⟨gx, 4, none⟩ (.int .i64 rows)).setCell ⟨gx, 5, none⟩ (.int .i64 log)).setCell ⟨gx, 6, none⟩ (.int .i64 0)).setCell ⟨gx, 7, none⟩ (.int .i64 (-1))).setCell ⟨gx, 8, none⟩ (.int .i64 0)).setCell ⟨gx, 9, none⟩ (.bool op)) gx [.int .u32 (id : Int), .int .u32 (ev : Int), .int .i64 mem, .int .i64 chunk, .int .i64 rows, .int .i64 log, .int .i64 0, .int .i64 (-1), .int .i64 0, .bool op]) := ((((((((((Px.out.set 0 (.int .u32 (id : Int))).set 1 (.int .u32 (ev : Int))).set 2 (.int .i64 mem)).set 3 (.int .i64 chunk)).set 4 (.int .i64 rows)).set 5 (.int .i64 log)).set 6 (.int .i64 0)).set 7 (.int .i64 (-1))).set 8 (.int .i64 0)).set 9 (.bool op))
        clear xc0 xf0 xc1 xf1 xc2 xf2 xc3 xf3 xc4 xf4 xc5 xf5 xc6 xf6 xc7 xf7 xc8 xf8 xc9 xf9 yc0 yf0 yc1 yf1 yc2 yf2 yc3 yf3 yc4 yf4 yc5 yf5 yc6 yf6 yc7 yf7 yc8 yf8 yc9 yf9 zc0 zf0 zc1 zf1 zc2 zf2 zc3 zf3 zc4 zf4 zc5 zf5 zc6 zf6 zc7 zf7 zc8 zf8 zc9 zf9 ltx lty ltz
        generalize ((((((((((az.setCell ⟨gx, 0, none⟩ (.int .u32 (id : Int))).setCell ⟨gx, 1, none⟩ (.int .u32 (ev : Int))).setCell ⟨gx, 2, none⟩ (.int .i64 mem)).setCell ⟨gx, 3, none⟩ (.int .i64 chunk)).setCell ⟨gx, 4, none⟩ (.int .i64 rows)).setCell ⟨gx, 5, none⟩ (.int .i64 log)).setCell ⟨gx, 6, none⟩ (.int .i64 0)).setCell ⟨gx, 7, none⟩ (.int .i64 (-1))).setCell ⟨gx, 8, none⟩ (.int .i64 0)).setCell ⟨gx, 9, none⟩ (.bool op)) = sx at *
        obtain ⟨xc0, xc1, xc2, xc3, xc4, xc5, xc6, xc7, xc8, xc9⟩ := Px.out.ten
        obtain ⟨xf0, xf1, xf2, xf3, xf4, xf5, xf6, xf7, xf8, xf9⟩ := Px.out.froz10
        have ltx := Px.out.lt
        obtain ⟨yc0, yc1, yc2, yc3, yc4, yc5, yc6, yc7, yc8, yc9⟩ := Py.out.ten
        obtain ⟨yf0, yf1, yf2, yf3, yf4, yf5, yf6, yf7, yf8, yf9⟩ := Py.out.froz10
        have lty := Py.out.lt
        obtain ⟨zc0, zc1, zc2, zc3, zc4, zc5, zc6, zc7, zc8, zc9⟩ := Pz.out.ten
        obtain ⟨zf0, zf1, zf2, zf3, zf4, zf5, zf6, zf7, zf8, zf9⟩ := Pz.out.froz10
        have ltz := Pz.out.lt
        refine hKq.out _ _ (Jx.out) (fun hHeld => ?_)
        clear hKq Kq
        (try simp only [Act.put, List.setIfInBounds_toArray, List.set_cons_zero, List.set_cons_succ])
        refine PX.wpAnyY_one (i := 7) (o := ?_) (by kernel_rfl) ?_ (fun Kq hKq => ?_)
        rotate_left
        · simp only [List.getElem?_toArray, List.getElem?_cons_succ, List.getElem?_cons_zero]; rfl
        go_simp
        have Jy : Hid (Below W3.heap.size W3 ((((((((((sx.setCell ⟨gy, 0, none⟩ (.int .u32 (id : Int))).setCell ⟨gy, 1, none⟩ (.int .u32 (ev : Int))).setCell ⟨gy, 2, none⟩ (.int .i64 mem)).setCell ⟨gy, 3, none⟩ (.int .i64 chunk)).setCell ⟨gy, 4, none⟩ (.int .i64 rows)).setCell ⟨gy, 5, none⟩ (.int .i64 log)).setCell ⟨gy, 6, none⟩ (.int .i64 0)).setCell ⟨gy, 7, none⟩ (.int .i64 (-1))).setCell ⟨gy, 8, none⟩ (.int .i64 0)).setCell ⟨gy, 9, none⟩ (.bool op))) := ((((((((((hHeld.setCell gy0.out (.int .u32 (id : Int))).setCell gy0.out (.int .u32 (ev : Int))).setCell gy0.out (.int .i64 mem)).setCell gy0.out (.int .i64 chunk)).setCell gy0.out (.int .i64 rows)).setCell gy0.out (.int .i64 log)).setCell gy0.out (.int .i64 0)).setCell gy0.out (.int .i64 (-1))).setCell gy0.out (.int .i64 0)).setCell gy0.out (.bool op))
        replace Px : Hid (Bx ((((((((((sx.setCell ⟨gy, 0, none⟩ (.int .u32 (id : Int))).setCell ⟨gy, 1, none⟩ (.int .u32 (ev : Int))).setCell ⟨gy, 2, none⟩ (.int .i64 mem)).setCell ⟨gy, 3, none⟩ (.int .i64 chunk)).setCell ⟨gy, 4, none⟩ (.int .i64 rows)).setCell ⟨gy, 5, none⟩ (.int .i64 log)).setCell ⟨gy, 6, none⟩ (.int .i64 0)).setCell ⟨gy, 7, none⟩ (.int .i64 (-1))).setCell ⟨gy, 8, none⟩ (.int .i64 0)).setCell ⟨gy, 9, none⟩ (.bool op)) gx [.int .u32 (id : Int), .int .u32 (ev : Int), .int .i64 mem, .int .i64 chunk, .int .i64 rows, .int .i64 log, .int .i64 0, .int .i64 (-1), .int .i64 0, .bool op]) := ((((((((((Px.out.other ⟨gy, 0, none⟩ nxy.symm (.int .u32 (id : Int))).other ⟨gy, 1, none⟩ nxy.symm (.int .u32 (ev : Int))).other ⟨gy, 2, none⟩ nxy.symm (.int .i64 mem)).other ⟨gy, 3, none⟩ nxy.symm (.int .i64 chunk)).other ⟨gy, 4, none⟩ nxy.symm (.int .i64 rows)).other ⟨gy, 5, none⟩ nxy.symm (.int .i64 log)).other ⟨gy, 6, none⟩ nxy.symm (.int .i64 0)).other ⟨gy, 7, none⟩ nxy.symm (.int .i64 (-1))).other ⟨gy, 8, none⟩ nxy.symm (.int .i64 0)).other ⟨gy, 9, none⟩ nxy.symm (.bool op))
        replace Pz : Hid (Bx ((((((((((sx.setCell ⟨gy, 0, none⟩ (.int .u32 (id : Int))).setCell ⟨gy, 1, none⟩ (.int .u32 (ev : Int))).setCell ⟨gy, 2, none⟩ (.int .i64 mem)).setCell ⟨gy, 3, none⟩ (.int .i64 chunk)).setCell ⟨gy, 4, none⟩ (.int .i64 rows)).setCell ⟨gy, 5, none⟩ (.int .i64 log)).setCell ⟨gy, 6, none⟩ (.int .i64 0)).setCell ⟨gy, 7, none⟩ (.int .i64 (-1))).setCell ⟨gy, 8, none⟩ (.int .i64 0)).setCell ⟨gy, 9, none⟩ (.bool op)) gz [.int .u32 0, .int .u32 0, .int .i64 0, .int .i64 0, .int .i64 0, .int .i64 0, .int .i64 0, .int .i64 0, .int .i64 0, .bool false]) := ((((((((((Pz.out.other ⟨gy, 0, none⟩ nyz (.int .u32 (id : Int))).other ⟨gy, 1, none⟩ nyz (.int .u32 (ev : Int))).other ⟨gy, 2, none⟩ nyz (.int .i64 mem)).other ⟨gy, 3, none⟩ nyz (.int .i64 chunk)).other ⟨gy, 4, none⟩ nyz (.int .i64 rows)).other ⟨gy, 5, none⟩ nyz (.int .i64 log)).other ⟨gy, 6, none⟩ nyz (.int .i64 0)).other ⟨gy, 7, none⟩ nyz (.int .i64 (-1))).other ⟨gy, 8, none⟩ nyz (.int .i64 0)).other ⟨gy, 9, none⟩ nyz (.bool op))
        replace Py : Hid (Bx ((((((((((sx.setCell ⟨gy, 0, none⟩ (.int .u32 (id : Int))).setCell ⟨gy, 1, none⟩ (.int .u32 (ev : Int))).setCell ⟨gy, 2, none⟩ (.int .i64 mem)).setCell ⟨gy, 3, none⟩ (.int .i64 chunk)).setCell ⟨gy, 4, none⟩ (.int .i64 rows)).setCell ⟨gy, 5, none⟩ (.int .i64 log)).setCell ⟨gy, 6, none⟩ (.int .i64 0)).setCell ⟨gy, 7, none⟩ (.int .i64 (-1))).setCell ⟨gy, 8, none⟩ (.int .i64 0)).setCell ⟨gy, 9, none⟩ (.bool op)) gy [.int .u32 (id : Int), .int .u32 (ev : Int), .int .i64 mem, .int .i64 chunk, .int .i64 rows, .int .i64 log, .int .i64 0, .int .i64 (-1), .int .i64 0, .bool op]) := ((((((((((Py.out.set 0 (.int .u32 (id : Int))).set 1 (.int .u32 (ev : Int))).set 2 (.int .i64 mem)).set 3 (.int .i64 chunk)).set 4 (.int .i64 rows)).set 5 (.int .i64 log)).set 6 (.int .i64 0)).set 7 (.int .i64 (-1))).set 8 (.int .i64 0)).set 9 (.bool op))
        clear xc0 xf0 xc1 xf1 xc2 xf2 xc3 xf3 xc4 xf4 xc5 xf5 xc6 xf6 xc7 xf7 xc8 xf8 xc9 xf9 yc0 yf0 yc1 yf1 yc2 yf2 yc3 yf3 yc4 yf4 yc5 yf5 yc6 yf6 yc7 yf7 yc8 yf8 yc9 yf9 zc0 zf0 zc1 zf1 zc2 zf2 zc3 zf3 zc4 zf4 zc5 zf5 zc6 zf6 zc7 zf7 zc8 zf8 zc9 zf9 ltx lty ltz
        generalize ((((((((((sx.setCell ⟨gy, 0, none⟩ (.int .u32 (id : Int))).setCell ⟨gy, 1, none⟩ (.int .u32 (ev : Int))).setCell ⟨gy, 2, none⟩ (.int .i64 mem)).setCell ⟨gy, 3, none⟩ (.int .i64 chunk)).setCell ⟨gy, 4, none⟩ (.int .i64 rows)).setCell ⟨gy, 5, none⟩ (.int .i64 log)).setCell ⟨gy, 6, none⟩ (.int .i64 0)).setCell ⟨gy, 7, none⟩ (.int .i64 (-1))).setCell ⟨gy, 8, none⟩ (.int .i64 0)).setCell ⟨gy, 9, none⟩ (.bool op)) = sy at *
        obtain ⟨xc0, xc1, xc2, xc3, xc4, xc5, xc6, xc7, xc8, xc9⟩ := Px.out.ten
        obtain ⟨xf0, xf1, xf2, xf3, xf4, xf5, xf6, xf7, xf8, xf9⟩ := Px.out.froz10
        have ltx := Px.out.lt
        obtain ⟨yc0, yc1, yc2, yc3, yc4, yc5, yc6, yc7, yc8, yc9⟩ := Py.out.ten
        obtain ⟨yf0, yf1, yf2, yf3, yf4, yf5, yf6, yf7, yf8, yf9⟩ := Py.out.froz10
        have lty := Py.out.lt
        obtain ⟨zc0, zc1, zc2, zc3, zc4, zc5, zc6, zc7, zc8, zc9⟩ := Pz.out.ten
        obtain ⟨zf0, zf1, zf2, zf3, zf4, zf5, zf6, zf7, zf8, zf9⟩ := Pz.out.froz10
        have ltz := Pz.out.lt
        refine hKq.out _ _ (Jy.out) (fun hHeld => ?_)
        clear hKq Kq
        (try simp only [Act.put, List.setIfInBounds_toArray, List.set_cons_zero, List.set_cons_succ])
        refine PX.wpAnyY_one (i := 8) (o := ?_) (by kernel_rfl) ?_ (fun Kq hKq => ?_)
        rotate_left
        · simp only [List.getElem?_toArray, List.getElem?_cons_succ, List.getElem?_cons_zero]; rfl
        go_simp
        have Jz : Hid (Below W3.heap.size W3 ((((((((((sy.setCell ⟨gz, 0, none⟩ (.int .u32 (id : Int))).setCell ⟨gz, 1, none⟩ (.int .u32 (ev : Int))).setCell ⟨gz, 2, none⟩ (.int .i64 mem)).setCell ⟨gz, 3, none⟩ (.int .i64 chunk)).setCell ⟨gz, 4, none⟩ (.int .i64 rows)).setCell ⟨gz, 5, none⟩ (.int .i64 log)).setCell ⟨gz, 6, none⟩ (.int .i64 0)).setCell ⟨gz, 7, none⟩ (.int .i64 (-1))).setCell ⟨gz, 8, none⟩ (.int .i64 0)).setCell ⟨gz, 9, none⟩ (.bool op))) := ((((((((((hHeld.setCell gz0.out (.int .u32 (id : Int))).setCell gz0.out (.int .u32 (ev : Int))).setCell gz0.out (.int .i64 mem)).setCell gz0.out (.int .i64 chunk)).setCell gz0.out (.int .i64 rows)).setCell gz0.out (.int .i64 log)).setCell gz0.out (.int .i64 0)).setCell gz0.out (.int .i64 (-1))).setCell gz0.out (.int .i64 0)).setCell gz0.out (.bool op))
        replace Px : Hid (Bx ((((((((((sy.setCell ⟨gz, 0, none⟩ (.int .u32 (id : Int))).setCell ⟨gz, 1, none⟩ (.int .u32 (ev : Int))).setCell ⟨gz, 2, none⟩ (.int .i64 mem)).setCell ⟨gz, 3, none⟩ (.int .i64 chunk)).setCell ⟨gz, 4, none⟩ (.int .i64 rows)).setCell ⟨gz, 5, none⟩ (.int .i64 log)).setCell ⟨gz, 6, none⟩ (.int .i64 0)).setCell ⟨gz, 7, none⟩ (.int .i64 (-1))).setCell ⟨gz, 8, none⟩ (.int .i64 0)).setCell ⟨gz, 9, none⟩ (.bool op)) gx [.int .u32 (id : Int), .int .u32 (ev : Int), .int .i64 mem, .int .i64 chunk, .int .i64 rows, .int .i64 log, .int .i64 0, .int .i64 (-1), .int .i64 0, .bool op]) := ((((((((((Px.out.other ⟨gz, 0, none⟩ nxz.symm (.int .u32 (id : Int))).other ⟨gz, 1, none⟩ nxz.symm (.int .u32 (ev : Int))).other ⟨gz, 2, none⟩ nxz.symm (.int .i64 mem)).other ⟨gz, 3, none⟩ nxz.symm (.int .i64 chunk)).other ⟨gz, 4, none⟩ nxz.symm (.int .i64 rows)).other ⟨gz, 5, none⟩ nxz.symm (.int .i64 log)).other ⟨gz, 6, none⟩ nxz.symm (.int .i64 0)).other ⟨gz, 7, none⟩ nxz.symm (.int .i64 (-1))).other ⟨gz, 8, none⟩ nxz.symm (.int .i64 0)).other ⟨gz, 9, none⟩ nxz.symm (.bool op))
        replace Py : Hid (Bx ((((((((((sy.setCell ⟨gz, 0, none⟩ (.int .u32 (id : Int))).setCell ⟨gz, 1, none⟩ (.int .u32 (ev : Int))).setCell ⟨gz, 2, none⟩ (.int .i64 mem)).setCell ⟨gz, 3, none⟩ (.int .i64 chunk)).setCell ⟨gz, 4, none⟩ (.int .i64 rows)).setCell ⟨gz, 5, none⟩ (.int .i64 log)).setCell ⟨gz, 6, none⟩ (.int .i64 0)).setCell ⟨gz, 7, none⟩ (.int .i64 (-1))).setCell ⟨gz, 8, none⟩ (.int .i64 0)).setCell ⟨gz, 9, none⟩ (.bool op)) gy [.int .u32 (id : Int), .int .u32 (ev : Int), .int .i64 mem, .int .i64 chunk, .int .i64 rows, .int .i64 log, .int .i64 0, .int .i64 (-1), .int .i64 0, .bool op]) := ((((((((((Py.out.other ⟨gz, 0, none⟩ nyz.symm (.int .u32 (id : Int))).other ⟨gz, 1, none⟩ nyz.symm (.int .u32 (ev : Int))).other ⟨gz, 2, none⟩ nyz.symm (.int .i64 mem)).other ⟨gz, 3, none⟩ nyz.symm (.int .i64 chunk)).other ⟨gz, 4, none⟩ nyz.symm (.int .i64 rows)).other ⟨gz, 5, none⟩ nyz.symm (.int .i64 log)).other ⟨gz, 6, none⟩ nyz.symm (.int .i64 0)).other ⟨gz, 7, none⟩ nyz.symm (.int .i64 (-1))).other ⟨gz, 8, none⟩ nyz.symm (.int .i64 0)).other ⟨gz, 9, none⟩ nyz.symm (.bool op))
        replace Pz : Hid (Bx ((((((((((sy.setCell ⟨gz, 0, none⟩ (.int .u32 (id : Int))).setCell ⟨gz, 1, none⟩ (.int .u32 (ev : Int))).setCell ⟨gz, 2, none⟩ (.int .i64 mem)).setCell ⟨gz, 3, none⟩ (.int .i64 chunk)).setCell ⟨gz, 4, none⟩ (.int .i64 rows)).setCell ⟨gz, 5, none⟩ (.int .i64 log)).setCell ⟨gz, 6, none⟩ (.int .i64 0)).setCell ⟨gz, 7, none⟩ (.int .i64 (-1))).setCell ⟨gz, 8, none⟩ (.int .i64 0)).setCell ⟨gz, 9, none⟩ (.bool op)) gz [.int .u32 (id : Int), .int .u32 (ev : Int), .int .i64 mem, .int .i64 chunk, .int .i64 rows, .int .i64 log, .int .i64 0, .int .i64 (-1), .int .i64 0, .bool op]) := ((((((((((Pz.out.set 0 (.int .u32 (id : Int))).set 1 (.int .u32 (ev : Int))).set 2 (.int .i64 mem)).set 3 (.int .i64 chunk)).set 4 (.int .i64 rows)).set 5 (.int .i64 log)).set 6 (.int .i64 0)).set 7 (.int .i64 (-1))).set 8 (.int .i64 0)).set 9 (.bool op))
        clear xc0 xf0 xc1 xf1 xc2 xf2 xc3 xf3 xc4 xf4 xc5 xf5 xc6 xf6 xc7 xf7 xc8 xf8 xc9 xf9 yc0 yf0 yc1 yf1 yc2 yf2 yc3 yf3 yc4 yf4 yc5 yf5 yc6 yf6 yc7 yf7 yc8 yf8 yc9 yf9 zc0 zf0 zc1 zf1 zc2 zf2 zc3 zf3 zc4 zf4 zc5 zf5 zc6 zf6 zc7 zf7 zc8 zf8 zc9 zf9 ltx lty ltz
        generalize ((((((((((sy.setCell ⟨gz, 0, none⟩ (.int .u32 (id : Int))).setCell ⟨gz, 1, none⟩ (.int .u32 (ev : Int))).setCell ⟨gz, 2, none⟩ (.int .i64 mem)).setCell ⟨gz, 3, none⟩ (.int .i64 chunk)).setCell ⟨gz, 4, none⟩ (.int .i64 rows)).setCell ⟨gz, 5, none⟩ (.int .i64 log)).setCell ⟨gz, 6, none⟩ (.int .i64 0)).setCell ⟨gz, 7, none⟩ (.int .i64 (-1))).setCell ⟨gz, 8, none⟩ (.int .i64 0)).setCell ⟨gz, 9, none⟩ (.bool op)) = sz at *
        obtain ⟨xc0, xc1, xc2, xc3, xc4, xc5, xc6, xc7, xc8, xc9⟩ := Px.out.ten
        obtain ⟨xf0, xf1, xf2, xf3, xf4, xf5, xf6, xf7, xf8, xf9⟩ := Px.out.froz10
        have ltx := Px.out.lt
        obtain ⟨yc0, yc1, yc2, yc3, yc4, yc5, yc6, yc7, yc8, yc9⟩ := Py.out.ten
        obtain ⟨yf0, yf1, yf2, yf3, yf4, yf5, yf6, yf7, yf8, yf9⟩ := Py.out.froz10
        have lty := Py.out.lt
        obtain ⟨zc0, zc1, zc2, zc3, zc4, zc5, zc6, zc7, zc8, zc9⟩ := Pz.out.ten
        obtain ⟨zf0, zf1, zf2, zf3, zf4, zf5, zf6, zf7, zf8, zf9⟩ := Pz.out.froz10
        have ltz := Pz.out.lt
        refine hKq.out _ _ (Jz.out) (fun hHeld => ?_)
        clear hKq Kq
        (try simp only [Act.put, List.setIfInBounds_toArray, List.set_cons_zero, List.set_cons_succ])
        refine PX.wpAnyY_done (by kernel_rfl) ?_ _
        refine NoPanic.normal ?_
        clear hHeld
        have nq1 : gx ≠ gy := by first | exact nxy | exact nyx.symm
        have nq2 : gx ≠ gz := by first | exact nxz | exact nzx.symm
        have nq3 : gy ≠ gz := by first | exact nyz | exact nzy.symm
        have nq4 := nq1.symm
        have nq5 := nq2.symm
        have nq6 := nq3.symm
        have ltW : w.heap.size < W3.heap.size := BX.out.lt
        have nw1 : gx ≠ w.heap.size := by have := gx0.out; omega
        have nw2 : gy ≠ w.heap.size := by have := gy0.out; omega
        have nw3 : gz ≠ w.heap.size := by have := gz0.out; omega
        have BW := Lib.hid (BX.out.here Jz.out)
        have QX : Hid (Bx ((((sz.setCell ⟨gx, 6, none⟩ (.int .i64 me2)).setCell ⟨gy, 7, none⟩ (.int .i64 lost2)).setCell ⟨gz, 7, none⟩ (.int .i64 0)).setCell ⟨gz, 8, none⟩ (.int .i64 done2)) gx [.int .u32 (id : Int), .int .u32 (ev : Int), .int .i64 mem, .int .i64 chunk, .int .i64 rows, .int .i64 log, .int .i64 me2, .int .i64 (-1), .int .i64 0, .bool op]) := (((Px.out.set 6 (.int .i64 me2)).other ⟨gy, 7, none⟩ nq4 _).other ⟨gz, 7, none⟩ nq5 _).other ⟨gz, 8, none⟩ nq5 _
        have QY : Hid (Bx ((((sz.setCell ⟨gx, 6, none⟩ (.int .i64 me2)).setCell ⟨gy, 7, none⟩ (.int .i64 lost2)).setCell ⟨gz, 7, none⟩ (.int .i64 0)).setCell ⟨gz, 8, none⟩ (.int .i64 done2)) gy [.int .u32 (id : Int), .int .u32 (ev : Int), .int .i64 mem, .int .i64 chunk, .int .i64 rows, .int .i64 log, .int .i64 0, .int .i64 lost2, .int .i64 0, .bool op]) := (((Py.out.other ⟨gx, 6, none⟩ nq1 _).set 7 (.int .i64 lost2)).other ⟨gz, 7, none⟩ nq6 _).other ⟨gz, 8, none⟩ nq6 _
        have QZ : Hid (Bx ((((sz.setCell ⟨gx, 6, none⟩ (.int .i64 me2)).setCell ⟨gy, 7, none⟩ (.int .i64 lost2)).setCell ⟨gz, 7, none⟩ (.int .i64 0)).setCell ⟨gz, 8, none⟩ (.int .i64 done2)) gz [.int .u32 (id : Int), .int .u32 (ev : Int), .int .i64 mem, .int .i64 chunk, .int .i64 rows, .int .i64 log, .int .i64 0, .int .i64 0, .int .i64 done2, .bool op]) := (((Pz.out.other ⟨gx, 6, none⟩ nq2 _).other ⟨gy, 7, none⟩ nq3 _).set 7 (.int .i64 0)).set 8 (.int .i64 done2)
        have QW : Hid (Bx ((((sz.setCell ⟨gx, 6, none⟩ (.int .i64 me2)).setCell ⟨gy, 7, none⟩ (.int .i64 lost2)).setCell ⟨gz, 7, none⟩ (.int .i64 0)).setCell ⟨gz, 8, none⟩ (.int .i64 done2)) w.heap.size [.int .u32 (id : Int), .int .u32 (ev : Int), .int .i64 mem, .int .i64 chunk, .int .i64 rows, .int .i64 log, .int .i64 0, .int .i64 (-1), .int .i64 0, .bool op]) := (((BW.out.other ⟨gx, 6, none⟩ nw1 _).other ⟨gy, 7, none⟩ nw2 _).other ⟨gz, 7, none⟩ nw3 _).other ⟨gz, 8, none⟩ nw3 _
        have J4 : Hid (Below W3.heap.size W3 ((((sz.setCell ⟨gx, 6, none⟩ (.int .i64 me2)).setCell ⟨gy, 7, none⟩ (.int .i64 lost2)).setCell ⟨gz, 7, none⟩ (.int .i64 0)).setCell ⟨gz, 8, none⟩ (.int .i64 done2))) := (((Jz.out.setCell gx0.out _).setCell gy0.out _).setCell gz0.out _).setCell gz0.out _
        go_wp2_with fail
        clear xc0 xf0 xc1 xf1 xc2 xf2 xc3 xf3 xc4 xf4 xc5 xf5 xc6 xf6 xc7 xf7 xc8 xf8 xc9 xf9 yc0 yf0 yc1 yf1 yc2 yf2 yc3 yf3 yc4 yf4 yc5 yf5 yc6 yf6 yc7 yf7 yc8 yf8 yc9 yf9 zc0 zf0 zc1 zf1 zc2 zf2 zc3 zf3 zc4 zf4 zc5 zf5 zc6 zf6 zc7 zf7 zc8 zf8 zc9 zf9 ltx lty ltz c0 c1 c2 c3 c4 c5 c6 c7 c8 c9 ltBX BX BW Px Py Pz
        have B4 := Lib.hid (B3.out.trans (J4.out.mono B3.out.size))
        clear J4 Jx Jy Jz B3 nq1 nq2 nq3 nq4 nq5 nq6 nw1 nw2 nw3 ltW
        generalize ((((sz.setCell ⟨gx, 6, none⟩ (.int .i64 me2)).setCell ⟨gy, 7, none⟩ (.int .i64 lost2)).setCell ⟨gz, 7, none⟩ (.int .i64 0)).setCell ⟨gz, 8, none⟩ (.int .i64 done2)) = w4 at *
        (with_reducible refine (KX.out _).mono ?_)
        rintro e w5 ⟨rfl, b5⟩
        replace QX := Lib.hid (QX.out.here b5)
        replace QY := Lib.hid (QY.out.here b5)
        replace QZ := Lib.hid (QZ.out.here b5)
        replace QW := Lib.hid (QW.out.here b5)
        have B5 := Lib.hid (thence B4.out b5 (Nat.le_refl _))
        clear b5 B4
        obtain ⟨x0, x1, x2, x3, x4, x5, x6, x7, x8, x9⟩ := QX.out.ten
        have ltQX := QX.out.lt
        obtain ⟨y0, y1, y2, y3, y4, y5, y6, y7, y8, y9⟩ := QY.out.ten
        have ltQY := QY.out.lt
        obtain ⟨z0, z1, z2, z3, z4, z5, z6, z7, z8, z9⟩ := QZ.out.ten
        have ltQZ := QZ.out.lt
        obtain ⟨c0, c1, c2, c3, c4, c5, c6, c7, c8, c9⟩ := QW.out.ten
        have ltQW := QW.out.lt
        go_wp2_with fail
        (with_reducible refine (KY.out _).mono ?_)
        rintro e w6 ⟨rfl, b6⟩
        clear x0 x1 x2 x3 x4 x5 x6 x7 x8 x9 y0 y1 y2 y3 y4 y5 y6 y7 y8 y9 z0 z1 z2 z3 z4 z5 z6 z7 z8 z9 c0 c1 c2 c3 c4 c5 c6 c7 c8 c9 ltQX ltQY ltQZ ltQW
        replace QX := Lib.hid (QX.out.here b6)
        replace QY := Lib.hid (QY.out.here b6)
        replace QZ := Lib.hid (QZ.out.here b6)
        replace QW := Lib.hid (QW.out.here b6)
        have B6 := Lib.hid (thence B5.out b6 (Nat.le_refl _))
        clear b6 B5
        obtain ⟨x0, x1, x2, x3, x4, x5, x6, x7, x8, x9⟩ := QX.out.ten
        have ltQX := QX.out.lt
        obtain ⟨y0, y1, y2, y3, y4, y5, y6, y7, y8, y9⟩ := QY.out.ten
        have ltQY := QY.out.lt
        obtain ⟨z0, z1, z2, z3, z4, z5, z6, z7, z8, z9⟩ := QZ.out.ten
        have ltQZ := QZ.out.lt
        obtain ⟨c0, c1, c2, c3, c4, c5, c6, c7, c8, c9⟩ := QW.out.ten
        have ltQW := QW.out.lt
        go_wp2_with fail
        (with_reducible refine (KZ.out _).mono ?_)
        rintro e w7 ⟨rfl, b7⟩
        clear x0 x1 x2 x3 x4 x5 x6 x7 x8 x9 y0 y1 y2 y3 y4 y5 y6 y7 y8 y9 z0 z1 z2 z3 z4 z5 z6 z7 z8 z9 c0 c1 c2 c3 c4 c5 c6 c7 c8 c9 ltQX ltQY ltQZ ltQW
        replace QX := Lib.hid (QX.out.here b7)
        replace QY := Lib.hid (QY.out.here b7)
        replace QZ := Lib.hid (QZ.out.here b7)
        replace QW := Lib.hid (QW.out.here b7)
        have B7 := Lib.hid (thence B6.out b7 (Nat.le_refl _))
        clear b7 B6
        obtain ⟨x0, x1, x2, x3, x4, x5, x6, x7, x8, x9⟩ := QX.out.ten
        have ltQX := QX.out.lt
        obtain ⟨y0, y1, y2, y3, y4, y5, y6, y7, y8, y9⟩ := QY.out.ten
        have ltQY := QY.out.lt
        obtain ⟨z0, z1, z2, z3, z4, z5, z6, z7, z8, z9⟩ := QZ.out.ten
        have ltQZ := QZ.out.lt
        obtain ⟨c0, c1, c2, c3, c4, c5, c6, c7, c8, c9⟩ := QW.out.ten
        have ltQW := QW.out.lt
        have ex := EX.out
        have ey := EY.out
        have ez := EZ.out
        have hw := HW.out
        go_wp2_with fail
        all_goals
          go_ret
          exact ⟨rfl, B7.out⟩
      · go_simp
        have hl : Below ax.heap.size ax (ax.alloc (.cells #[.int .u32 0, .int .u32 0, .int .i64 0, .int .i64 0, .int .i64 0, .int .i64 0, .int .i64 0, .int .i64 0, .int .i64 0, .bool false] 28)) := (Below.refl _ _).alloc (Nat.le_refl _) _
        have Hz : Hid (Below W3.heap.size W3 (ax.alloc (.cells #[.int .u32 0, .int .u32 0, .int .i64 0, .int .i64 0, .int .i64 0, .int .i64 0, .int .i64 0, .int .i64 0, .int .i64 0, .bool false] 28))) := (thence hHeld hl (Nat.le_refl _))
        have Pz : Hid (Bx (ax.alloc (.cells #[.int .u32 0, .int .u32 0, .int .i64 0, .int .i64 0, .int .i64 0, .int .i64 0, .int .i64 0, .int .i64 0, .int .i64 0, .bool false] 28)) ax.heap.size [.int .u32 0, .int .u32 0, .int .i64 0, .int .i64 0, .int .i64 0, .int .i64 0, .int .i64 0, .int .i64 0, .int .i64 0, .bool false]) := Bx.new ax [.int .u32 0, .int .u32 0, .int .i64 0, .int .i64 0, .int .i64 0, .int .i64 0, .int .i64 0, .int .i64 0, .int .i64 0, .bool false] 28
        have gz0 : Hid (W3.heap.size ≤ ax.heap.size) := hHeld.size
        replace Px := Lib.hid (Px.out.here hl)
        have nxz : gx ≠ ax.heap.size := Nat.ne_of_lt ltx
        clear hl
        generalize (ax.alloc (.cells #[.int .u32 0, .int .u32 0, .int .i64 0, .int .i64 0, .int .i64 0, .int .i64 0, .int .i64 0, .int .i64 0, .int .i64 0, .bool false] 28)) = az at *
        obtain ⟨gz, hG⟩ : ∃ gb, ax.heap.size = gb := ⟨_, rfl⟩
        rw [hG] at nxz
        rw [hG] at Pz ⊢
        replace gz0 : Hid (W3.heap.size ≤ gz) := hG ▸ gz0.out
        clear hG
        clear ltx
        have ltx := Px.out.lt
        have ltz := Pz.out.lt
        refine hKq.out _ _ (Hz.out) (fun hHeld => ?_)
        clear hKq Kq
        (try simp only [Act.put, List.setIfInBounds_toArray, List.set_cons_zero, List.set_cons_succ])
        refine PX.wpAnyY_one (i := 4) (o := ?_) (by kernel_rfl) ?_ (fun Kq hKq => ?_)
        rotate_left
        · simp only [List.getElem?_toArray, List.getElem?_cons_succ, List.getElem?_cons_zero]; rfl
        go_simp
        have hl : Below az.heap.size az (az.alloc (.cells #[.int .u32 0, .int .u32 0, .int .i64 0, .int .i64 0, .int .i64 0, .int .i64 0, .int .i64 0, .int .i64 0, .int .i64 0, .bool false] 28)) := (Below.refl _ _).alloc (Nat.le_refl _) _
        have Hy : Hid (Below W3.heap.size W3 (az.alloc (.cells #[.int .u32 0, .int .u32 0, .int .i64 0, .int .i64 0, .int .i64 0, .int .i64 0, .int .i64 0, .int .i64 0, .int .i64 0, .bool false] 28))) := (thence hHeld hl (Nat.le_refl _))
        have Py : Hid (Bx (az.alloc (.cells #[.int .u32 0, .int .u32 0, .int .i64 0, .int .i64 0, .int .i64 0, .int .i64 0, .int .i64 0, .int .i64 0, .int .i64 0, .bool false] 28)) az.heap.size [.int .u32 0, .int .u32 0, .int .i64 0, .int .i64 0, .int .i64 0, .int .i64 0, .int .i64 0, .int .i64 0, .int .i64 0, .bool false]) := Bx.new az [.int .u32 0, .int .u32 0, .int .i64 0, .int .i64 0, .int .i64 0, .int .i64 0, .int .i64 0, .int .i64 0, .int .i64 0, .bool false] 28
        have gy0 : Hid (W3.heap.size ≤ az.heap.size) := hHeld.size
        replace Px := Lib.hid (Px.out.here hl)
        have nxy : gx ≠ az.heap.size := Nat.ne_of_lt ltx
        replace Pz := Lib.hid (Pz.out.here hl)
        have nzy : gz ≠ az.heap.size := Nat.ne_of_lt ltz
        clear hl
        generalize (az.alloc (.cells #[.int .u32 0, .int .u32 0, .int .i64 0, .int .i64 0, .int .i64 0, .int .i64 0, .int .i64 0, .int .i64 0, .int .i64 0, .bool false] 28)) = ay at *
        obtain ⟨gy, hG⟩ : ∃ gb, az.heap.size = gb := ⟨_, rfl⟩
        rw [hG] at nxy
        rw [hG] at nzy
        rw [hG] at Py ⊢
        replace gy0 : Hid (W3.heap.size ≤ gy) := hG ▸ gy0.out
        clear hG
        clear ltx
        clear ltz
        have ltx := Px.out.lt
        have ltz := Pz.out.lt
        have lty := Py.out.lt
        obtain ⟨xc0, xc1, xc2, xc3, xc4, xc5, xc6, xc7, xc8, xc9⟩ := Px.out.ten
        obtain ⟨xf0, xf1, xf2, xf3, xf4, xf5, xf6, xf7, xf8, xf9⟩ := Px.out.froz10
        obtain ⟨yc0, yc1, yc2, yc3, yc4, yc5, yc6, yc7, yc8, yc9⟩ := Py.out.ten
        obtain ⟨yf0, yf1, yf2, yf3, yf4, yf5, yf6, yf7, yf8, yf9⟩ := Py.out.froz10
        obtain ⟨zc0, zc1, zc2, zc3, zc4, zc5, zc6, zc7, zc8, zc9⟩ := Pz.out.ten
        obtain ⟨zf0, zf1, zf2, zf3, zf4, zf5, zf6, zf7, zf8, zf9⟩ := Pz.out.froz10
        refine hKq.out _ _ (Hy.out) (fun hHeld => ?_)
        clear hKq Kq
        (try simp only [Act.put, List.setIfInBounds_toArray, List.set_cons_zero, List.set_cons_succ])
        refine PX.wpAnyY_one (i := 6) (o := ?_) (by kernel_rfl) ?_ (fun Kq hKq => ?_)
        rotate_left
        · simp only [List.getElem?_toArray, List.getElem?_cons_succ, List.getElem?_cons_zero]; rfl
        go_simp
        have Jx : Hid (Below W3.heap.size W3 ((((((((((ay.setCell ⟨gx, 0, none⟩ (.int .u32 (id : Int))).setCell ⟨gx, 1, none⟩ (.int .u32 (ev : Int))).setCell ⟨gx, 2, none⟩ (.int .i64 mem)).setCell ⟨gx, 3, none⟩ (.int .i64 chunk)).setCell ⟨gx, 4, none⟩ (.int .i64 rows)).setCell ⟨gx, 5, none⟩ (.int .i64 log)).setCell ⟨gx, 6, none⟩ (.int .i64 0)).setCell ⟨gx, 7, none⟩ (.int .i64 (-1))).setCell ⟨gx, 8, none⟩ (.int .i64 0)).setCell ⟨gx, 9, none⟩ (.bool op))) := ((((((((((hHeld.setCell gx0.out (.int .u32 (id : Int))).setCell gx0.out (.int .u32 (ev : Int))).setCell gx0.out (.int .i64 mem)).setCell gx0.out (.int .i64 chunk)).setCell gx0.out (.int .i64 rows)).setCell gx0.out (.int .i64 log)).setCell gx0.out (.int .i64 0)).setCell gx0.out (.int .i64 (-1))).setCell gx0.out (.int .i64 0)).setCell gx0.out (.bool op))
        replace Py : Hid (Bx ((((((((((ay.setCell ⟨gx, 0, none⟩ (.int .u32 (id : Int))).setCell ⟨gx, 1, none⟩ (.int .u32 (ev : Int))).setCell ⟨gx, 2, none⟩ (.int .i64 mem)).setCell ⟨gx, 3, none⟩ (.int .i64 chunk)).setCell ⟨gx, 4, none⟩ (.int .i64 rows)).setCell ⟨gx, 5, none⟩ (.int .i64 log)).setCell ⟨gx, 6, none⟩ (.int .i64 0)).setCell ⟨gx, 7, none⟩ (.int .i64 (-1))).setCell ⟨gx, 8, none⟩ (.int .i64 0)).setCell ⟨gx, 9, none⟩ (.bool op)) gy [.int .u32 0, .int .u32 0, .int .i64 0, .int .i64 0, .int .i64 0, .int .i64 0, .int .i64 0, .int .i64 0, .int .i64 0, .bool false]) := ((((((((((Py.out.other ⟨gx, 0, none⟩ nxy (.int .u32 (id : Int))).other ⟨gx, 1, none⟩ nxy (.int .u32 (ev : Int))).other ⟨gx, 2, none⟩ nxy (.int .i64 mem)).other ⟨gx, 3, none⟩ nxy (.int .i64 chunk)).other ⟨gx, 4, none⟩ nxy (.int .i64 rows)).other ⟨gx, 5, none⟩ nxy (.int .i64 log)).other ⟨gx, 6, none⟩ nxy (.int .i64 0)).other ⟨gx, 7, none⟩ nxy (.int .i64 (-1))).other ⟨gx, 8, none⟩ nxy (.int .i64 0)).other ⟨gx, 9, none⟩ nxy (.bool op))
        replace Pz : Hid (Bx ((((((((((ay.setCell ⟨gx, 0, none⟩ (.int .u32 (id : Int))).setCell ⟨gx, 1, none⟩ (.int .u32 (ev : Int))).setCell ⟨gx, 2, none⟩ (.int .i64 mem)).setCell ⟨gx, 3, none⟩ (.int .i64 chunk)).setCell ⟨gx, 4, none⟩ (.int .i64 rows)).setCell ⟨gx, 5, none⟩ (.int .i64 log)).setCell ⟨gx, 6, none⟩ (.int .i64 0)).setCell ⟨gx, 7, none⟩ (.int .i64 (-1))).setCell ⟨gx, 8, none⟩ (.int .i64 0)).setCell ⟨gx, 9, none⟩ (.bool op)) gz [.int .u32 0, .int .u32 0, .int .i64 0, .int .i64 0, .int .i64 0, .int .i64 0, .int .i64 0, .int .i64 0, .int .i64 0, .bool false]) := ((((((((((Pz.out.other ⟨gx, 0, none⟩ nxz (.int .u32 (id : Int))).other ⟨gx, 1, none⟩ nxz (.int .u32 (ev : Int))).other ⟨gx, 2, none⟩ nxz (.int .i64 mem)).other ⟨gx, 3, none⟩ nxz (.int .i64 chunk)).other ⟨gx, 4, none⟩ nxz (.int .i64 rows)).other ⟨gx, 5, none⟩ nxz (.int .i64 log)).other ⟨gx, 6, none⟩ nxz (.int .i64 0)).other ⟨gx, 7, none⟩ nxz (.int .i64 (-1))).other ⟨gx, 8, none⟩ nxz (.int .i64 0)).other ⟨gx, 9, none⟩ nxz (.bool op))
        replace Px : Hid (Bx ((((((((((ay.setCell ⟨gx, 0, none⟩ (.int .u32 (id : Int))).setCell ⟨gx, 1, none⟩ (.int .u32 (ev : Int))).setCell ⟨gx, 2, none⟩ (.int .i64 mem)).setCell ⟨gx, 3, none⟩ (.int .i64 chunk)).setCell ⟨gx, 4, none⟩ (.int .i64 rows)).setCell ⟨gx, 5, none⟩ (.int .i64 log)).setCell ⟨gx, 6, none⟩ (.int .i64 0)).setCell ⟨gx, 7, none⟩ (.int .i64 (-1))).setCell ⟨gx, 8, none⟩ (.int .i64 0)).setCell ⟨gx, 9, none⟩ (.bool op)) gx [.int .u32 (id : Int), .int .u32 (ev : Int), .int .i64 mem, .int .i64 chunk, .int .i64 rows, .int .i64 log, .int .i64 0, .int .i64 (-1), .int .i64 0, .bool op]) := ((((((((((Px.out.set 0 (.int .u32 (id : Int))).set 1 (.int .u32 (ev : Int))).set 2 (.int .i64 mem)).set 3 (.int .i64 chunk)).set 4 (.int .i64 rows)).set 5 (.int .i64 log)).set 6 (.int .i64 0)).set 7 (.int .i64 (-1))).set 8 (.int .i64 0)).set 9 (.bool op))
        clear xc0 xf0 xc1 xf1 xc2 xf2 xc3 xf3 xc4 xf4 xc5 xf5 xc6 xf6 xc7 xf7 xc8 xf8 xc9 xf9 yc0 yf0 yc1 yf1 yc2 yf2 yc3 yf3 yc4 yf4 yc5 yf5 yc6 yf6 yc7 yf7 yc8 yf8 yc9 yf9 zc0 zf0 zc1 zf1 zc2 zf2 zc3 zf3 zc4 zf4 zc5 zf5 zc6 zf6 zc7 zf7 zc8 zf8 zc9 zf9 ltx lty ltz
        generalize ((((((((((ay.setCell ⟨gx, 0, none⟩ (.int .u32 (id : Int))).setCell ⟨gx, 1, none⟩ (.int .u32 (ev : Int))).setCell ⟨gx, 2, none⟩ (.int .i64 mem)).setCell ⟨gx, 3, none⟩ (.int .i64 chunk)).setCell ⟨gx, 4, none⟩ (.int .i64 rows)).setCell ⟨gx, 5, none⟩ (.int .i64 log)).setCell ⟨gx, 6, none⟩ (.int .i64 0)).setCell ⟨gx, 7, none⟩ (.int .i64 (-1))).setCell ⟨gx, 8, none⟩ (.int .i64 0)).setCell ⟨gx, 9, none⟩ (.bool op)) = sx at *
        obtain ⟨xc0, xc1, xc2, xc3, xc4, xc5, xc6, xc7, xc8, xc9⟩ := Px.out.ten
        obtain ⟨xf0, xf1, xf2, xf3, xf4, xf5, xf6, xf7, xf8, xf9⟩ := Px.out.froz10
        have ltx := Px.out.lt
        obtain ⟨yc0, yc1, yc2, yc3, yc4, yc5, yc6, yc7, yc8, yc9⟩ := Py.out.ten
        obtain ⟨yf0, yf1, yf2, yf3, yf4, yf5, yf6, yf7, yf8, yf9⟩ := Py.out.froz10
        have lty := Py.out.lt
        obtain ⟨zc0, zc1, zc2, zc3, zc4, zc5, zc6, zc7, zc8, zc9⟩ := Pz.out.ten
        obtain ⟨zf0, zf1, zf2, zf3, zf4, zf5, zf6, zf7, zf8, zf9⟩ := Pz.out.froz10
        have ltz := Pz.out.lt
        refine hKq.out _ _ (Jx.out) (fun hHeld => ?_)
        clear hKq Kq
        (try simp only [Act.put, List.setIfInBounds_toArray, List.set_cons_zero, List.set_cons_succ])
        refine PX.wpAnyY_one (i := 7) (o := ?_) (by kernel_rfl) ?_ (fun Kq hKq => ?_)
        rotate_left
        · simp only [List.getElem?_toArray, List.getElem?_cons_succ, List.getElem?_cons_zero]; rfl
        go_simp
        have Jy : Hid (Below W3.heap.size W3 ((((((((((sx.setCell ⟨gy, 0, none⟩ (.int .u32 (id : Int))).setCell ⟨gy, 1, none⟩ (.int .u32 (ev : Int))).setCell ⟨gy, 2, none⟩ (.int .i64 mem)).setCell ⟨gy, 3, none⟩ (.int .i64 chunk)).setCell ⟨gy, 4, none⟩ (.int .i64 rows)).setCell ⟨gy, 5, none⟩ (.int .i64 log)).setCell ⟨gy, 6, none⟩ (.int .i64 0)).setCell ⟨gy, 7, none⟩ (.int .i64 (-1))).setCell ⟨gy, 8, none⟩ (.int .i64 0)).setCell ⟨gy, 9, none⟩ (.bool op))) := ((((((((((hHeld.setCell gy0.out (.int .u32 (id : Int))).setCell gy0.out (.int .u32 (ev : Int))).setCell gy0.out (.int .i64 mem)).setCell gy0.out (.int .i64 chunk)).setCell gy0.out (.int .i64 rows)).setCell gy0.out (.int .i64 log)).setCell gy0.out (.int .i64 0)).setCell gy0.out (.int .i64 (-1))).setCell gy0.out (.int .i64 0)).setCell gy0.out (.bool op))
        replace Px : Hid (Bx ((((((((((sx.setCell ⟨gy, 0, none⟩ (.int .u32 (id : Int))).setCell ⟨gy, 1, none⟩ (.int .u32 (ev : Int))).setCell ⟨gy, 2, none⟩ (.int .i64 mem)).setCell ⟨gy, 3, none⟩ (.int .i64 chunk)).setCell ⟨gy, 4, none⟩ (.int .i64 rows)).setCell ⟨gy, 5, none⟩ (.int .i64 log)).setCell ⟨gy, 6, none⟩ (.int .i64 0)).setCell ⟨gy, 7, none⟩ (.int .i64 (-1))).setCell ⟨gy, 8, none⟩ (.int .i64 0)).setCell ⟨gy, 9, none⟩ (.bool op)) gx [.int .u32 (id : Int), .int .u32 (ev : Int), .int .i64 mem, .int .i64 chunk, .int .i64 rows, .int .i64 log, .int .i64 0, .int .i64 (-1), .int .i64 0, .bool op]) := ((((((((((Px.out.other ⟨gy, 0, none⟩ nxy.symm (.int .u32 (id : Int))).other ⟨gy, 1, none⟩ nxy.symm (.int .u32 (ev : Int))).other ⟨gy, 2, none⟩ nxy.symm (.int .i64 mem)).other ⟨gy, 3, none⟩ nxy.symm (.int .i64 chunk)).other ⟨gy, 4, none⟩ nxy.symm (.int .i64 rows)).other ⟨gy, 5, none⟩ nxy.symm (.int .i64 log)).other ⟨gy, 6, none⟩ nxy.symm (.int .i64 0)).other ⟨gy, 7, none⟩ nxy.symm (.int .i64 (-1))).other ⟨gy, 8, none⟩ nxy.symm (.int .i64 0)).other ⟨gy, 9, none⟩ nxy.symm (.bool op))
        replace Pz : Hid (Bx ((((((((((sx.setCell ⟨gy, 0, none⟩ (.int .u32 (id : Int))).setCell ⟨gy, 1, none⟩ (.int .u32 (ev : Int))).setCell ⟨gy, 2, none⟩ (.int .i64 mem)).setCell ⟨gy, 3, none⟩ (.int .i64 chunk)).setCell ⟨gy, 4, none⟩ (.int .i64 rows)).setCell ⟨gy, 5, none⟩ (.int .i64 log)).setCell ⟨gy, 6, none⟩ (.int .i64 0)).setCell ⟨gy, 7, none⟩ (.int .i64 (-1))).setCell ⟨gy, 8, none⟩ (.int .i64 0)).setCell ⟨gy, 9, none⟩ (.bool op)) gz [.int .u32 0, .int .u32 0, .int .i64 0, .int .i64 0, .int .i64 0, .int .i64 0, .int .i64 0, .int .i64 0, .int .i64 0, .bool false]) := ((((((((((Pz.out.other ⟨gy, 0, none⟩ nzy.symm (.int .u32 (id : Int))).other ⟨gy, 1, none⟩ nzy.symm (.int .u32 (ev : Int))).other ⟨gy, 2, none⟩ nzy.symm (.int .i64 mem)).other ⟨gy, 3, none⟩ nzy.symm (.int .i64 chunk)).other ⟨gy, 4, none⟩ nzy.symm (.int .i64 rows)).other ⟨gy, 5, none⟩ nzy.symm (.int .i64 log)).other ⟨gy, 6, none⟩ nzy.symm (.int .i64 0)).other ⟨gy, 7, none⟩ nzy.symm (.int .i64 (-1))).other ⟨gy, 8, none⟩ nzy.symm (.int .i64 0)).other ⟨gy, 9, none⟩ nzy.symm (.bool op))
        replace Py : Hid (Bx ((((((((((sx.setCell ⟨gy, 0, none⟩ (.int .u32 (id : Int))).setCell ⟨gy, 1, none⟩ (.int .u32 (ev : Int))).setCell ⟨gy, 2, none⟩ (.int .i64 mem)).setCell ⟨gy, 3, none⟩ (.int .i64 chunk)).setCell ⟨gy, 4, none⟩ (.int .i64 rows)).setCell ⟨gy, 5, none⟩ (.int .i64 log)).setCell ⟨gy, 6, none⟩ (.int .i64 0)).setCell ⟨gy, 7, none⟩ (.int .i64 (-1))).setCell ⟨gy, 8, none⟩ (.int .i64 0)).setCell ⟨gy, 9, none⟩ (.bool op)) gy [.int .u32 (id : Int), .int .u32 (ev : Int), .int .i64 mem, .int .i64 chunk, .int .i64 rows, .int .i64 log, .int .i64 0, .int .i64 (-1), .int .i64 0, .bool op]) := ((((((((((Py.out.set 0 (.int .u32 (id : Int))).set 1 (.int .u32 (ev : Int))).set 2 (.int .i64 mem)).set 3 (.int .i64 chunk)).set 4 (.int .i64 rows)).set 5 (.int .i64 log)).set 6 (.int .i64 0)).set 7 (.int .i64 (-1))).set 8 (.int .i64 0)).set 9 (.bool op))
        clear xc0 xf0 xc1 xf1 xc2 xf2 xc3 xf3 xc4 xf4 xc5 xf5 xc6 xf6 xc7 xf7 xc8 xf8 xc9 xf9 yc0 yf0 yc1 yf1 yc2 yf2 yc3 yf3 yc4 yf4 yc5 yf5 yc6 yf6 yc7 yf7 yc8 yf8 yc9 yf9 zc0 zf0 zc1 zf1 zc2 zf2 zc3 zf3 zc4 zf4 zc5 zf5 zc6 zf6 zc7 zf7 zc8 zf8 zc9 zf9 ltx lty ltz
        generalize ((((((((((sx.setCell ⟨gy, 0, none⟩ (.int .u32 (id : Int))).setCell ⟨gy, 1, none⟩ (.int .u32 (ev : Int))).setCell ⟨gy, 2, none⟩ (.int .i64 mem)).setCell ⟨gy, 3, none⟩ (.int .i64 chunk)).setCell ⟨gy, 4, none⟩ (.int .i64 rows)).setCell ⟨gy, 5, none⟩ (.int .i64 log)).setCell ⟨gy, 6, none⟩ (.int .i64 0)).setCell ⟨gy, 7, none⟩ (.int .i64 (-1))).setCell ⟨gy, 8, none⟩ (.int .i64 0)).setCell ⟨gy, 9, none⟩ (.bool op)) = sy at *
        obtain ⟨xc0, xc1, xc2, xc3, xc4, xc5, xc6, xc7, xc8, xc9⟩ := Px.out.ten
        obtain ⟨xf0, xf1, xf2, xf3, xf4, xf5, xf6, xf7, xf8, xf9⟩ := Px.out.froz10
        have ltx := Px.out.lt
        obtain ⟨yc0, yc1, yc2, yc3, yc4, yc5, yc6, yc7, yc8, yc9⟩ := Py.out.ten
        obtain ⟨yf0, yf1, yf2, yf3, yf4, yf5, yf6, yf7, yf8, yf9⟩ := Py.out.froz10
        have lty := Py.out.lt
        obtain ⟨zc0, zc1, zc2, zc3, zc4, zc5, zc6, zc7, zc8, zc9⟩ := Pz.out.ten
        obtain ⟨zf0, zf1, zf2, zf3, zf4, zf5, zf6, zf7, zf8, zf9⟩ := Pz.out.froz10
        have ltz := Pz.out.lt
        refine hKq.out _ _ (Jy.out) (fun hHeld => ?_)
        clear hKq Kq
        (try simp only [Act.put, List.setIfInBounds_toArray, List.set_cons_zero, List.set_cons_succ])
        refine PX.wpAnyY_one (i := 8) (o := ?_) (by kernel_rfl) ?_ (fun Kq hKq => ?_)
        rotate_left
        · simp only [List.getElem?_toArray, List.getElem?_cons_succ, List.getElem?_cons_zero]; rfl
        go_simp
        have Jz : Hid (Below W3.heap.size W3 ((((((((((sy.setCell ⟨gz, 0, none⟩ (.int .u32 (id : Int))).setCell ⟨gz, 1, none⟩ (.int .u32 (ev : Int))).setCell ⟨gz, 2, none⟩ (.int .i64 mem)).setCell ⟨gz, 3, none⟩ (.int .i64 chunk)).setCell ⟨gz, 4, none⟩ (.int .i64 rows)).setCell ⟨gz, 5, none⟩ (.int .i64 log)).setCell ⟨gz, 6, none⟩ (.int .i64 0)).setCell ⟨gz, 7, none⟩ (.int .i64 (-1))).setCell ⟨gz, 8, none⟩ (.int .i64 0)).setCell ⟨gz, 9, none⟩ (.bool op))) := ((((((((((hHeld.setCell gz0.out (.int .u32 (id : Int))).setCell gz0.out (.int .u32 (ev : Int))).setCell gz0.out (.int .i64 mem)).setCell gz0.out (.int .i64 chunk)).setCell gz0.out (.int .i64 rows)).setCell gz0.out (.int .i64 log)).setCell gz0.out (.int .i64 0)).setCell gz0.out (.int .i64 (-1))).setCell gz0.out (.int .i64 0)).setCell gz0.out (.bool op))
        replace Px : Hid (Bx ((((((((((sy.setCell ⟨gz, 0, none⟩ (.int .u32 (id : Int))).setCell ⟨gz, 1, none⟩ (.int .u32 (ev : Int))).setCell ⟨gz, 2, none⟩ (.int .i64 mem)).setCell ⟨gz, 3, none⟩ (.int .i64 chunk)).setCell ⟨gz, 4, none⟩ (.int .i64 rows)).setCell ⟨gz, 5, none⟩ (.int .i64 log)).setCell ⟨gz, 6, none⟩ (.int .i64 0)).setCell ⟨gz, 7, none⟩ (.int .i64 (-1))).setCell ⟨gz, 8, none⟩ (.int .i64 0)).setCell ⟨gz, 9, none⟩ (.bool op)) gx [.int .u32 (id : Int), .int .u32 (ev : Int), .int .i64 mem, .int .i64 chunk, .int .i64 rows, .int .i64 log, .int .i64 0, .int .i64 (-1), .int .i64 0, .bool op]) := ((((((((((Px.out.other ⟨gz, 0, none⟩ nxz.symm (.int .u32 (id : Int))).other ⟨gz, 1, none⟩ nxz.symm (.int .u32 (ev : Int))).other ⟨gz, 2, none⟩ nxz.symm (.int .i64 mem)).other ⟨gz, 3, none⟩ nxz.symm (.int .i64 chunk)).other ⟨gz, 4, none⟩ nxz.symm (.int .i64 rows)).other ⟨gz, 5, none⟩ nxz.symm (.int .i64 log)).other ⟨gz, 6, none⟩ nxz.symm (.int .i64 0)).other ⟨gz, 7, none⟩ nxz.symm (.int .i64 (-1))).other ⟨gz, 8, none⟩ nxz.symm (.int .i64 0)).other ⟨gz, 9, none⟩ nxz.symm (.bool op))
        replace Py : Hid (Bx ((((((((((sy.setCell ⟨gz, 0, none⟩ (.int .u32 (id : Int))).setCell ⟨gz, 1, none⟩ (.int .u32 (ev : Int))).setCell ⟨gz, 2, none⟩ (.int .i64 mem)).setCell ⟨gz, 3, none⟩ (.int .i64 chunk)).setCell ⟨gz, 4, none⟩ (.int .i64 rows)).setCell ⟨gz, 5, none⟩ (.int .i64 log)).setCell ⟨gz, 6, none⟩ (.int .i64 0)).setCell ⟨gz, 7, none⟩ (.int .i64 (-1))).setCell ⟨gz, 8, none⟩ (.int .i64 0)).setCell ⟨gz, 9, none⟩ (.bool op)) gy [.int .u32 (id : Int), .int .u32 (ev : Int), .int .i64 mem, .int .i64 chunk, .int .i64 rows, .int .i64 log, .int .i64 0, .int .i64 (-1), .int .i64 0, .bool op]) := ((((((((((Py.out.other ⟨gz, 0, none⟩ nzy (.int .u32 (id : Int))).other ⟨gz, 1, none⟩ nzy (.int .u32 (ev : Int))).other ⟨gz, 2, none⟩ nzy (.int .i64 mem)).other ⟨gz, 3, none⟩ nzy (.int .i64 chunk)).other ⟨gz, 4, none⟩ nzy (.int .i64 rows)).other ⟨gz, 5, none⟩ nzy (.int .i64 log)).other ⟨gz, 6, none⟩ nzy (.int .i64 0)).other ⟨gz, 7, none⟩ nzy (.int .i64 (-1))).other ⟨gz, 8, none⟩ nzy (.int .i64 0)).other ⟨gz, 9, none⟩ nzy (.bool op))
        replace Pz : Hid (Bx ((((((((((sy.setCell ⟨gz, 0, none⟩ (.int .u32 (id : Int))).setCell ⟨gz, 1, none⟩ (.int .u32 (ev : Int))).setCell ⟨gz, 2, none⟩ (.int .i64 mem)).setCell ⟨gz, 3, none⟩ (.int .i64 chunk)).setCell ⟨gz, 4, none⟩ (.int .i64 rows)).setCell ⟨gz, 5, none⟩ (.int .i64 log)).setCell ⟨gz, 6, none⟩ (.int .i64 0)).setCell ⟨gz, 7, none⟩ (.int .i64 (-1))).setCell ⟨gz, 8, none⟩ (.int .i64 0)).setCell ⟨gz, 9, none⟩ (.bool op)) gz [.int .u32 (id : Int), .int .u32 (ev : Int), .int .i64 mem, .int .i64 chunk, .int .i64 rows, .int .i64 log, .int .i64 0, .int .i64 (-1), .int .i64 0, .bool op]) := ((((((((((Pz.out.set 0 (.int .u32 (id : Int))).set 1 (.int .u32 (ev : Int))).set 2 (.int .i64 mem)).set 3 (.int .i64 chunk)).set 4 (.int .i64 rows)).set 5 (.int .i64 log)).set 6 (.int .i64 0)).set 7 (.int .i64 (-1))).set 8 (.int .i64 0)).set 9 (.bool op))
        clear xc0 xf0 xc1 xf1 xc2 xf2 xc3 xf3 xc4 xf4 xc5 xf5 xc6 xf6 xc7 xf7 xc8 xf8 xc9 xf9 yc0 yf0 yc1 yf1 yc2 yf2 yc3 yf3 yc4 yf4 yc5 yf5 yc6 yf6 yc7 yf7 yc8 yf8 yc9 yf9 zc0 zf0 zc1 zf1 zc2 zf2 zc3 zf3 zc4 zf4 zc5 zf5 zc6 zf6 zc7 zf7 zc8 zf8 zc9 zf9 ltx lty ltz
        generalize ((((((((((sy.setCell ⟨gz, 0, none⟩ (.int .u32 (id : Int))).setCell ⟨gz, 1, none⟩ (.int .u32 (ev : Int))).setCell ⟨gz, 2, none⟩ (.int .i64 mem)).setCell ⟨gz, 3, none⟩ (.int .i64 chunk)).setCell ⟨gz, 4, none⟩ (.int .i64 rows)).setCell ⟨gz, 5, none⟩ (.int .i64 log)).setCell ⟨gz, 6, none⟩ (.int .i64 0)).setCell ⟨gz, 7, none⟩ (.int .i64 (-1))).setCell ⟨gz, 8, none⟩ (.int .i64 0)).setCell ⟨gz, 9, none⟩ (.bool op)) = sz at *
        obtain ⟨xc0, xc1, xc2, xc3, xc4, xc5, xc6, xc7, xc8, xc9⟩ := Px.out.ten
        obtain ⟨xf0, xf1, xf2, xf3, xf4, xf5, xf6, xf7, xf8, xf9⟩ := Px.out.froz10
        have ltx := Px.out.lt
        obtain ⟨yc0, yc1, yc2, yc3, yc4, yc5, yc6, yc7, yc8, yc9⟩ := Py.out.ten
        obtain ⟨yf0, yf1, yf2, yf3, yf4, yf5, yf6, yf7, yf8, yf9⟩ := Py.out.froz10
        have lty := Py.out.lt
        obtain ⟨zc0, zc1, zc2, zc3, zc4, zc5, zc6, zc7, zc8, zc9⟩ := Pz.out.ten
        obtain ⟨zf0, zf1, zf2, zf3, zf4, zf5, zf6, zf7, zf8, zf9⟩ := Pz.out.froz10
        have ltz := Pz.out.lt
        refine hKq.out _ _ (Jz.out) (fun hHeld => ?_)
        clear hKq Kq
        (try simp only [Act.put, List.setIfInBounds_toArray, List.set_cons_zero, List.set_cons_succ])
        refine PX.wpAnyY_done (by kernel_rfl) ?_ _
        refine NoPanic.normal ?_
        clear hHeld
        have nq1 : gx ≠ gy := by first | exact nxy | exact nyx.symm
        have nq2 : gx ≠ gz := by first | exact nxz | exact nzx.symm
        have nq3 : gy ≠ gz := by first | exact nyz | exact nzy.symm
        have nq4 := nq1.symm
        have nq5 := nq2.symm
        have nq6 := nq3.symm
        have ltW : w.heap.size < W3.heap.size := BX.out.lt
        have nw1 : gx ≠ w.heap.size := by have := gx0.out; omega
        have nw2 : gy ≠ w.heap.size := by have := gy0.out; omega
        have nw3 : gz ≠ w.heap.size := by have := gz0.out; omega
        have BW := Lib.hid (BX.out.here Jz.out)
        have QX : Hid (Bx ((((sz.setCell ⟨gx, 6, none⟩ (.int .i64 me2)).setCell ⟨gy, 7, none⟩ (.int .i64 lost2)).setCell ⟨gz, 7, none⟩ (.int .i64 0)).setCell ⟨gz, 8, none⟩ (.int .i64 done2)) gx [.int .u32 (id : Int), .int .u32 (ev : Int), .int .i64 mem, .int .i64 chunk, .int .i64 rows, .int .i64 log, .int .i64 me2, .int .i64 (-1), .int .i64 0, .bool op]) := (((Px.out.set 6 (.int .i64 me2)).other ⟨gy, 7, none⟩ nq4 _).other ⟨gz, 7, none⟩ nq5 _).other ⟨gz, 8, none⟩ nq5 _
        have QY : Hid (Bx ((((sz.setCell ⟨gx, 6, none⟩ (.int .i64 me2)).setCell ⟨gy, 7, none⟩ (.int .i64 lost2)).setCell ⟨gz, 7, none⟩ (.int .i64 0)).setCell ⟨gz, 8, none⟩ (.int .i64 done2)) gy [.int .u32 (id : Int), .int .u32 (ev : Int), .int .i64 mem, .int .i64 chunk, .int .i64 rows, .int .i64 log, .int .i64 0, .int .i64 lost2, .int .i64 0, .bool op]) := (((Py.out.other ⟨gx, 6, none⟩ nq1 _).set 7 (.int .i64 lost2)).other ⟨gz, 7, none⟩ nq6 _).other ⟨gz, 8, none⟩ nq6 _
        have QZ : Hid (Bx ((((sz.setCell ⟨gx, 6, none⟩ (.int .i64 me2)).setCell ⟨gy, 7, none⟩ (.int .i64 lost2)).setCell ⟨gz, 7, none⟩ (.int .i64 0)).setCell ⟨gz, 8, none⟩ (.int .i64 done2)) gz [.int .u32 (id : Int), .int .u32 (ev : Int), .int .i64 mem, .int .i64 chunk, .int .i64 rows, .int .i64 log, .int .i64 0, .int .i64 0, .int .i64 done2, .bool op]) := (((Pz.out.other ⟨gx, 6, none⟩ nq2 _).other ⟨gy, 7, none⟩ nq3 _).set 7 (.int .i64 0)).set 8 (.int .i64 done2)
        have QW : Hid (Bx ((((sz.setCell ⟨gx, 6, none⟩ (.int .i64 me2)).setCell ⟨gy, 7, none⟩ (.int .i64 lost2)).setCell ⟨gz, 7, none⟩ (.int .i64 0)).setCell ⟨gz, 8, none⟩ (.int .i64 done2)) w.heap.size [.int .u32 (id : Int), .int .u32 (ev : Int), .int .i64 mem, .int .i64 chunk, .int .i64 rows, .int .i64 log, .int .i64 0, .int .i64 (-1), .int .i64 0, .bool op]) := (((BW.out.other ⟨gx, 6, none⟩ nw1 _).other ⟨gy, 7, none⟩ nw2 _).other ⟨gz, 7, none⟩ nw3 _).other ⟨gz, 8, none⟩ nw3 _
        have J4 : Hid (Below W3.heap.size W3 ((((sz.setCell ⟨gx, 6, none⟩ (.int .i64 me2)).setCell ⟨gy, 7, none⟩ (.int .i64 lost2)).setCell ⟨gz, 7, none⟩ (.int .i64 0)).setCell ⟨gz, 8, none⟩ (.int .i64 done2))) := (((Jz.out.setCell gx0.out _).setCell gy0.out _).setCell gz0.out _).setCell gz0.out _
        go_wp2_with fail
        clear xc0 xf0 xc1 xf1 xc2 xf2 xc3 xf3 xc4 xf4 xc5 xf5 xc6 xf6 xc7 xf7 xc8 xf8 xc9 xf9 yc0 yf0 yc1 yf1 yc2 yf2 yc3 yf3 yc4 yf4 yc5 yf5 yc6 yf6 yc7 yf7 yc8 yf8 yc9 yf9 zc0 zf0 zc1 zf1 zc2 zf2 zc3 zf3 zc4 zf4 zc5 zf5 zc6 zf6 zc7 zf7 zc8 zf8 zc9 zf9 ltx lty ltz c0 c1 c2 c3 c4 c5 c6 c7 c8 c9 ltBX BX BW Px Py Pz
        have B4 := Lib.hid (B3.out.trans (J4.out.mono B3.out.size))
        clear J4 Jx Jy Jz B3 nq1 nq2 nq3 nq4 nq5 nq6 nw1 nw2 nw3 ltW
        generalize ((((sz.setCell ⟨gx, 6, none⟩ (.int .i64 me2)).setCell ⟨gy, 7, none⟩ (.int .i64 lost2)).setCell ⟨gz, 7, none⟩ (.int .i64 0)).setCell ⟨gz, 8, none⟩ (.int .i64 done2)) = w4 at *
        (with_reducible refine (KX.out _).mono ?_)
        rintro e w5 ⟨rfl, b5⟩
        replace QX := Lib.hid (QX.out.here b5)
        replace QY := Lib.hid (QY.out.here b5)
        replace QZ := Lib.hid (QZ.out.here b5)
        replace QW := Lib.hid (QW.out.here b5)
        have B5 := Lib.hid (thence B4.out b5 (Nat.le_refl _))
        clear b5 B4
        obtain ⟨x0, x1, x2, x3, x4, x5, x6, x7, x8, x9⟩ := QX.out.ten
        have ltQX := QX.out.lt
        obtain ⟨y0, y1, y2, y3, y4, y5, y6, y7, y8, y9⟩ := QY.out.ten
        have ltQY := QY.out.lt
        obtain ⟨z0, z1, z2, z3, z4, z5, z6, z7, z8, z9⟩ := QZ.out.ten
        have ltQZ := QZ.out.lt
        obtain ⟨c0, c1, c2, c3, c4, c5, c6, c7, c8, c9⟩ := QW.out.ten
        have ltQW := QW.out.lt
        go_wp2_with fail
        (with_reducible refine (KY.out _).mono ?_)
        rintro e w6 ⟨rfl, b6⟩
        clear x0 x1 x2 x3 x4 x5 x6 x7 x8 x9 y0 y1 y2 y3 y4 y5 y6 y7 y8 y9 z0 z1 z2 z3 z4 z5 z6 z7 z8 z9 c0 c1 c2 c3 c4 c5 c6 c7 c8 c9 ltQX ltQY ltQZ ltQW
        replace QX := Lib.hid (QX.out.here b6)
        replace QY := Lib.hid (QY.out.here b6)
        replace QZ := Lib.hid (QZ.out.here b6)
        replace QW := Lib.hid (QW.out.here b6)
        have B6 := Lib.hid (thence B5.out b6 (Nat.le_refl _))
        clear b6 B5
        obtain ⟨x0, x1, x2, x3, x4, x5, x6, x7, x8, x9⟩ := QX.out.ten
        have ltQX := QX.out.lt
        obtain ⟨y0, y1, y2, y3, y4, y5, y6, y7, y8, y9⟩ := QY.out.ten
        have ltQY := QY.out.lt
        obtain ⟨z0, z1, z2, z3, z4, z5, z6, z7, z8, z9⟩ := QZ.out.ten
        have ltQZ := QZ.out.lt
        obtain ⟨c0, c1, c2, c3, c4, c5, c6, c7, c8, c9⟩ := QW.out.ten
        have ltQW := QW.out.lt
        go_wp2_with fail
        (with_reducible refine (KZ.out _).mono ?_)
        rintro e w7 ⟨rfl, b7⟩
        clear x0 x1 x2 x3 x4 x5 x6 x7 x8 x9 y0 y1 y2 y3 y4 y5 y6 y7 y8 y9 z0 z1 z2 z3 z4 z5 z6 z7 z8 z9 c0 c1 c2 c3 c4 c5 c6 c7 c8 c9 ltQX ltQY ltQZ ltQW
        replace QX := Lib.hid (QX.out.here b7)
        replace QY := Lib.hid (QY.out.here b7)
        replace QZ := Lib.hid (QZ.out.here b7)
        replace QW := Lib.hid (QW.out.here b7)
        have B7 := Lib.hid (thence B6.out b7 (Nat.le_refl _))
        clear b7 B6
        obtain ⟨x0, x1, x2, x3, x4, x5, x6, x7, x8, x9⟩ := QX.out.ten
        have ltQX := QX.out.lt
        obtain ⟨y0, y1, y2, y3, y4, y5, y6, y7, y8, y9⟩ := QY.out.ten
        have ltQY := QY.out.lt
        obtain ⟨z0, z1, z2, z3, z4, z5, z6, z7, z8, z9⟩ := QZ.out.ten
        have ltQZ := QZ.out.lt
        obtain ⟨c0, c1, c2, c3, c4, c5, c6, c7, c8, c9⟩ := QW.out.ten
        have ltQW := QW.out.lt
        have ex := EX.out
        have ey := EY.out
        have ez := EZ.out
        have hw := HW.out
        go_wp2_with fail
        all_goals
          go_ret
          exact ⟨rfl, B7.out⟩
    · go_simp
      have hl : Below W3.heap.size W3 (W3.alloc (.cells #[.int .u32 0, .int .u32 0, .int .i64 0, .int .i64 0, .int .i64 0, .int .i64 0, .int .i64 0, .int .i64 0, .int .i64 0, .bool false] 28)) := (Below.refl _ _).alloc (Nat.le_refl _) _
      have Hy : Hid (Below W3.heap.size W3 (W3.alloc (.cells #[.int .u32 0, .int .u32 0, .int .i64 0, .int .i64 0, .int .i64 0, .int .i64 0, .int .i64 0, .int .i64 0, .int .i64 0, .bool false] 28)).drew) := (thence (Below.refl _ _) hl (Nat.le_refl _)).drew
      have Py : Hid (Bx (W3.alloc (.cells #[.int .u32 0, .int .u32 0, .int .i64 0, .int .i64 0, .int .i64 0, .int .i64 0, .int .i64 0, .int .i64 0, .int .i64 0, .bool false] 28)).drew W3.heap.size [.int .u32 0, .int .u32 0, .int .i64 0, .int .i64 0, .int .i64 0, .int .i64 0, .int .i64 0, .int .i64 0, .int .i64 0, .bool false]) := Bx.new W3 [.int .u32 0, .int .u32 0, .int .i64 0, .int .i64 0, .int .i64 0, .int .i64 0, .int .i64 0, .int .i64 0, .int .i64 0, .bool false] 28
      have gy0 : Hid (W3.heap.size ≤ W3.heap.size) := Nat.le_refl _
      clear hl
      generalize (W3.alloc (.cells #[.int .u32 0, .int .u32 0, .int .i64 0, .int .i64 0, .int .i64 0, .int .i64 0, .int .i64 0, .int .i64 0, .int .i64 0, .bool false] 28)).drew = ay at *
      obtain ⟨gy, hG⟩ : ∃ gb, W3.heap.size = gb := ⟨_, rfl⟩
      rw [hG] at Py ⊢
      replace gy0 : Hid (W3.heap.size ≤ gy) := hG ▸ gy0.out
      clear hG
      have lty := Py.out.lt
      refine hKq.out _ _ (Hy.out) (fun hHeld => ?_)
      clear hKq Kq
      (try simp only [Act.put, List.setIfInBounds_toArray, List.set_cons_zero, List.set_cons_succ])
      refine PX.wpAnyY_two (i := 3) (j := 5) (o := ?_) (o' := ?_) (by kernel_rfl) ?_ ?_ (fun Kq hKq => ?_) (fun Kq hKq => ?_)
      rotate_left 2
      · simp only [List.getElem?_toArray, List.getElem?_cons_succ, List.getElem?_cons_zero]; rfl
      · simp only [List.getElem?_toArray, List.getElem?_cons_succ, List.getElem?_cons_zero]; rfl
      · go_simp
        have hl : Below ay.heap.size ay (ay.alloc (.cells #[.int .u32 0, .int .u32 0, .int .i64 0, .int .i64 0, .int .i64 0, .int .i64 0, .int .i64 0, .int .i64 0, .int .i64 0, .bool false] 28)) := (Below.refl _ _).alloc (Nat.le_refl _) _
        have Hx : Hid (Below W3.heap.size W3 (ay.alloc (.cells #[.int .u32 0, .int .u32 0, .int .i64 0, .int .i64 0, .int .i64 0, .int .i64 0, .int .i64 0, .int .i64 0, .int .i64 0, .bool false] 28))) := (thence hHeld hl (Nat.le_refl _))
        have Px : Hid (Bx (ay.alloc (.cells #[.int .u32 0, .int .u32 0, .int .i64 0, .int .i64 0, .int .i64 0, .int .i64 0, .int .i64 0, .int .i64 0, .int .i64 0, .bool false] 28)) ay.heap.size [.int .u32 0, .int .u32 0, .int .i64 0, .int .i64 0, .int .i64 0, .int .i64 0, .int .i64 0, .int .i64 0, .int .i64 0, .bool false]) := Bx.new ay [.int .u32 0, .int .u32 0, .int .i64 0, .int .i64 0, .int .i64 0, .int .i64 0, .int .i64 0, .int .i64 0, .int .i64 0, .bool false] 28
        have gx0 : Hid (W3.heap.size ≤ ay.heap.size) := hHeld.size
        replace Py := Lib.hid (Py.out.here hl)
        have nyx : gy ≠ ay.heap.size := Nat.ne_of_lt lty
        clear hl
        generalize (ay.alloc (.cells #[.int .u32 0, .int .u32 0, .int .i64 0, .int .i64 0, .int .i64 0, .int .i64 0, .int .i64 0, .int .i64 0, .int .i64 0, .bool false] 28)) = ax at *
        obtain ⟨gx, hG⟩ : ∃ gb, ay.heap.size = gb := ⟨_, rfl⟩
        rw [hG] at nyx
        rw [hG] at Px ⊢
        replace gx0 : Hid (W3.heap.size ≤ gx) := hG ▸ gx0.out
        clear hG
        clear lty
        have lty := Py.out.lt
        have ltx := Px.out.lt
        refine hKq.out _ _ (Hx.out) (fun hHeld => ?_)
        clear hKq Kq
        (try simp only [Act.put, List.setIfInBounds_toArray, List.set_cons_zero, List.set_cons_succ])
        refine PX.wpAnyY_one (i := 5) (o := ?_) (by kernel_rfl) ?_ (fun Kq hKq => ?_)
        rotate_left
        · simp only [List.getElem?_toArray, List.getElem?_cons_succ, List.getElem?_cons_zero]; rfl
        go_simp
        have hl : Below ax.heap.size ax (ax.alloc (.cells #[.int .u32 0, .int .u32 0, .int .i64 0, .int .i64 0, .int .i64 0, .int .i64 0, .int .i64 0, .int .i64 0, .int .i64 0, .bool false] 28)) := (Below.refl _ _).alloc (Nat.le_refl _) _
        have Hz : Hid (Below W3.heap.size W3 (ax.alloc (.cells #[.int .u32 0, .int .u32 0, .int .i64 0, .int .i64 0, .int .i64 0, .int .i64 0, .int .i64 0, .int .i64 0, .int .i64 0, .bool false] 28))) := (thence hHeld hl (Nat.le_refl _))
        have Pz : Hid (Bx (ax.alloc (.cells #[.int .u32 0, .int .u32 0, .int .i64 0, .int .i64 0, .int .i64 0, .int .i64 0, .int .i64 0, .int .i64 0, .int .i64 0, .bool false] 28)) ax.heap.size [.int .u32 0, .int .u32 0, .int .i64 0, .int .i64 0, .int .i64 0, .int .i64 0, .int .i64 0, .int .i64 0, .int .i64 0, .bool false]) := Bx.new ax [.int .u32 0, .int .u32 0, .int .i64 0, .int .i64 0, .int .i64 0, .int .i64 0, .int .i64 0, .int .i64 0, .int .i64 0, .bool false] 28
        have gz0 : Hid (W3.heap.size ≤ ax.heap.size) := hHeld.size
        replace Py := Lib.hid (Py.out.here hl)
        have nyz : gy ≠ ax.heap.size := Nat.ne_of_lt lty
        replace Px := Lib.hid (Px.out.here hl)
        have nxz : gx ≠ ax.heap.size := Nat.ne_of_lt ltx
        clear hl
        generalize (ax.alloc (.cells #[.int .u32 0, .int .u32 0, .int .i64 0, .int .i64 0, .int .i64 0, .int .i64 0, .int .i64 0, .int .i64 0, .int .i64 0, .bool false] 28)) = az at *
        obtain ⟨gz, hG⟩ : ∃ gb, ax.heap.size = gb := ⟨_, rfl⟩
        rw [hG] at nyz
        rw [hG] at nxz
        rw [hG] at Pz ⊢
        replace gz0 : Hid (W3.heap.size ≤ gz) := hG ▸ gz0.out
        clear hG
        clear lty
        clear ltx
        have lty := Py.out.lt
        have ltx := Px.out.lt
        have ltz := Pz.out.lt
        obtain ⟨xc0, xc1, xc2, xc3, xc4, xc5, xc6, xc7, xc8, xc9⟩ := Px.out.ten
        obtain ⟨xf0, xf1, xf2, xf3, xf4, xf5, xf6, xf7, xf8, xf9⟩ := Px.out.froz10
        obtain ⟨yc0, yc1, yc2, yc3, yc4, yc5, yc6, yc7, yc8, yc9⟩ := Py.out.ten
        obtain ⟨yf0, yf1, yf2, yf3, yf4, yf5, yf6, yf7, yf8, yf9⟩ := Py.out.froz10
        obtain ⟨zc0, zc1, zc2, zc3, zc4, zc5, zc6, zc7, zc8, zc9⟩ := Pz.out.ten
        obtain ⟨zf0, zf1, zf2, zf3, zf4, zf5, zf6, zf7, zf8, zf9⟩ := Pz.out.froz10
        refine hKq.out _ _ (Hz.out) (fun hHeld => ?_)
        clear hKq Kq
        (try simp only [Act.put, List.setIfInBounds_toArray, List.set_cons_zero, List.set_cons_succ])
        refine PX.wpAnyY_one (i := 6) (o := ?_) (by kernel_rfl) ?_ (fun Kq hKq => ?_)
        rotate_left
        · simp only [List.getElem?_toArray, List.getElem?_cons_succ, List.getElem?_cons_zero]; rfl
        go_simp
        have Jx : Hid (Below W3.heap.size W3 ((((((((((az.setCell ⟨gx, 0, none⟩ (.int .u32 (id : Int))).setCell ⟨gx, 1, none⟩ (.int .u32 (ev : Int))).setCell ⟨gx, 2, none⟩ (.int .i64 mem)).setCell ⟨gx, 3, none⟩ (.int .i64 chunk)).setCell ⟨gx, 4, none⟩ (.int .i64 rows)).setCell ⟨gx, 5, none⟩ (.int .i64 log)).setCell ⟨gx, 6, none⟩ (.int .i64 0)).setCell ⟨gx, 7, none⟩ (.int .i64 (-1))).setCell ⟨gx, 8, none⟩ (.int .i64 0)).setCell ⟨gx, 9, none⟩ (.bool op))) := ((((((((((hHeld.setCell gx0.out (.int .u32 (id : Int))).setCell gx0.out (.int .u32 (ev : Int))).setCell gx0.out (.int .i64 mem)).setCell gx0.out (.int .i64 chunk)).setCell gx0.out (.int .i64 rows)).setCell gx0.out (.int .i64 log)).setCell gx0.out (.int .i64 0)).setCell gx0.out (.int .i64 (-1))).setCell gx0.out (.int .i64 0)).setCell gx0.out (.bool op))
        replace Py : Hid (Bx ((((((((((az.setCell ⟨gx, 0, none⟩ (.int .u32 (id : Int))).setCell ⟨gx, 1, none⟩ (.int .u32 (ev : Int))).setCell ⟨gx, 2, none⟩ (.int .i64 mem)).setCell ⟨gx, 3, none⟩ (.int .i64 chunk)).setCell ⟨gx, 4, none⟩ (.int .i64 rows)).setCell ⟨gx, 5, none⟩ (.int .i64 log)).setCell ⟨gx, 6, none⟩ (.int .i64 0)).setCell ⟨gx, 7, none⟩ (.int .i64 (-1))).setCell ⟨gx, 8, none⟩ (.int .i64 0)).setCell ⟨gx, 9, none⟩ (.bool op)) gy [.int .u32 0, .int .u32 0, .int .i64 0, .int .i64 0, .int .i64 0, .int .i64 0, .int .i64 0, .int .i64 0, .int .i64 0, .bool false]) := ((((((((((Py.out.other ⟨gx, 0, none⟩ nyx.symm (.int .u32 (id : Int))).other ⟨gx, 1, none⟩ nyx.symm (.int .u32 (ev : Int))).other ⟨gx, 2, none⟩ nyx.symm (.int .i64 mem)).other ⟨gx, 3, none⟩ nyx.symm (.int .i64 chunk)).other ⟨gx, 4, none⟩ nyx.symm (.int .i64 rows)).other ⟨gx, 5, none⟩ nyx.symm (.int .i64 log)).other ⟨gx, 6, none⟩ nyx.symm (.int .i64 0)).other ⟨gx, 7, none⟩ nyx.symm (.int .i64 (-1))).other ⟨gx, 8, none⟩ nyx.symm (.int .i64 0)).other ⟨gx, 9, none⟩ nyx.symm (.bool op))
        replace Pz : Hid (Bx ((((((((((az.setCell ⟨gx, 0, none⟩ (.int .u32 (id : Int))).setCell ⟨gx, 1, none⟩ (.int .u32 (ev : Int))).setCell ⟨gx, 2, none⟩ (.int .i64 mem)).setCell ⟨gx, 3, none⟩ (.int .i64 chunk)).setCell ⟨gx, 4, none⟩ (.int .i64 rows)).setCell ⟨gx, 5, none⟩ (.int .i64 log)).setCell ⟨gx, 6, none⟩ (.int .i64 0)).setCell ⟨gx, 7, none⟩ (.int .i64 (-1))).setCell ⟨gx, 8, none⟩ (.int .i64 0)).setCell ⟨gx, 9, none⟩ (.bool op)) gz [.int .u32 0, .int .u32 0, .int .i64 0, .int .i64 0, .int .i64 0, .int .i64 0, .int .i64 0, .int .i64 0, .int .i64 0, .bool false]) := ((((((((((Pz.out.other ⟨gx, 0, none⟩ nxz (.int .u32 (id : Int))).other ⟨gx, 1, none⟩ nxz (.int .u32 (ev : Int))).other ⟨gx, 2, none⟩ nxz (.int .i64 mem)).other ⟨gx, 3, none⟩ nxz (.int .i64 chunk)).other ⟨gx, 4, none⟩ nxz (.int .i64 rows)).other ⟨gx, 5, none⟩ nxz (.int .i64 log)).other ⟨gx, 6, none⟩ nxz (.int .i64 0)).other ⟨gx, 7, none⟩ nxz (.int .i64 (-1))).other ⟨gx, 8, none⟩ nxz (.int .i64 0)).other ⟨gx, 9, none⟩ nxz (.bool op))
        replace Px : Hid (Bx ((((((((((az.setCell ⟨gx, 0, none⟩ (.int .u32 (id : Int))).setCell ⟨gx, 1, none⟩ (.int .u32 (ev : Int))).setCell ⟨gx, 2, none⟩ (.int .i64 mem)).setCell ⟨gx, 3, none⟩ (.int .i64 chunk)).setCell ⟨gx, 4, none⟩ (.int .i64 rows)).setCell ⟨gx, 5, none⟩ (.int .i64 log)).setCell ⟨gx, 6, none⟩ (.int .i64 0)).setCell ⟨gx, 7, none⟩ (.int .i64 (-1))).setCell ⟨gx, 8, none⟩ (.int .i64 0)).setCell ⟨gx, 9, none⟩ (.bool op)) gx [.int .u32 (id : Int), .int .u32 (ev : Int), .int .i64 mem, .int .i64 chunk, .int .i64 rows, .int .i64 log, .int .i64 0, .int .i64 (-1), .int .i64 0, .bool op]) := ((((((((((Px.out.set 0 (.int .u32 (id : Int))).set 1 (.int .u32 (ev : Int))).set 2 (.int .i64 mem)).set 3 (.int .i64 chunk)).set 4 (.int .i64 rows)).set 5 (.int .i64 log)).set 6 (.int .i64 0)).set 7 (.int .i64 (-1))).set 8 (.int .i64 0)).set 9 (.bool op))
        clear xc0 xf0 xc1 xf1 xc2 xf2 xc3 xf3 xc4 xf4 xc5 xf5 xc6 xf6 xc7 xf7 xc8 xf8 xc9 xf9 yc0 yf0 yc1 yf1 yc2 yf2 yc3 yf3 yc4 yf4 yc5 yf5 yc6 yf6 yc7 yf7 yc8 yf8 yc9 yf9 zc0 zf0 zc1 zf1 zc2 zf2 zc3 zf3 zc4 zf4 zc5 zf5 zc6 zf6 zc7 zf7 zc8 zf8 zc9 zf9 ltx lty ltz
        generalize ((((((((((az.setCell ⟨gx, 0, none⟩ (.int .u32 (id : Int))).setCell ⟨gx, 1, none⟩ (.int .u32 (ev : Int))).setCell ⟨gx, 2, none⟩ (.int .i64 mem)).setCell ⟨gx, 3, none⟩ (.int .i64 chunk)).setCell ⟨gx, 4, none⟩ (.int .i64 rows)).setCell ⟨gx, 5, none⟩ (.int .i64 log)).setCell ⟨gx, 6, none⟩ (.int .i64 0)).setCell ⟨gx, 7, none⟩ (.int .i64 (-1))).setCell ⟨gx, 8, none⟩ (.int .i64 0)).setCell ⟨gx, 9, none⟩ (.bool op)) = sx at *
        obtain ⟨xc0, xc1, xc2, xc3, xc4, xc5, xc6, xc7, xc8, xc9⟩ := Px.out.ten
        obtain ⟨xf0, xf1, xf2, xf3, xf4, xf5, xf6, xf7, xf8, xf9⟩ := Px.out.froz10
        have ltx := Px.out.lt
        obtain ⟨yc0, yc1, yc2, yc3, yc4, yc5, yc6, yc7, yc8, yc9⟩ := Py.out.ten
        obtain ⟨yf0, yf1, yf2, yf3, yf4, yf5, yf6, yf7, yf8, yf9⟩ := Py.out.froz10
        have lty := Py.out.lt
        obtain ⟨zc0, zc1, zc2, zc3, zc4, zc5, zc6, zc7, zc8, zc9⟩ := Pz.out.ten
        obtain ⟨zf0, zf1, zf2, zf3, zf4, zf5, zf6, zf7, zf8, zf9⟩ := Pz.out.froz10
        have ltz := Pz.out.lt
        refine hKq.out _ _ (Jx.out) (fun hHeld => ?_)
        clear hKq Kq
        (try simp only [Act.put, List.setIfInBounds_toArray, List.set_cons_zero, List.set_cons_succ])
        refine PX.wpAnyY_one (i := 7) (o := ?_) (by kernel_rfl) ?_ (fun Kq hKq => ?_)
        rotate_left
        · simp only [List.getElem?_toArray, List.getElem?_cons_succ, List.getElem?_cons_zero]; rfl
        go_simp
        have Jy : Hid (Below W3.heap.size W3 ((((((((((sx.setCell ⟨gy, 0, none⟩ (.int .u32 (id : Int))).setCell ⟨gy, 1, none⟩ (.int .u32 (ev : Int))).setCell ⟨gy, 2, none⟩ (.int .i64 mem)).setCell ⟨gy, 3, none⟩ (.int .i64 chunk)).setCell ⟨gy, 4, none⟩ (.int .i64 rows)).setCell ⟨gy, 5, none⟩ (.int .i64 log)).setCell ⟨gy, 6, none⟩ (.int .i64 0)).setCell ⟨gy, 7, none⟩ (.int .i64 (-1))).setCell ⟨gy, 8, none⟩ (.int .i64 0)).setCell ⟨gy, 9, none⟩ (.bool op))) := ((((((((((hHeld.setCell gy0.out (.int .u32 (id : Int))).setCell gy0.out (.int .u32 (ev : Int))).setCell gy0.out (.int .i64 mem)).setCell gy0.out (.int .i64 chunk)).setCell gy0.out (.int .i64 rows)).setCell gy0.out (.int .i64 log)).setCell gy0.out (.int .i64 0)).setCell gy0.out (.int .i64 (-1))).setCell gy0.out (.int .i64 0)).setCell gy0.out (.bool op))
        replace Px : Hid (Bx ((((((((((sx.setCell ⟨gy, 0, none⟩ (.int .u32 (id : Int))).setCell ⟨gy, 1, none⟩ (.int .u32 (ev : Int))).setCell ⟨gy, 2, none⟩ (.int .i64 mem)).setCell ⟨gy, 3, none⟩ (.int .i64 chunk)).setCell ⟨gy, 4, none⟩ (.int .i64 rows)).setCell ⟨gy, 5, none⟩ (.int .i64 log)).setCell ⟨gy, 6, none⟩ (.int .i64 0)).setCell ⟨gy, 7, none⟩ (.int .i64 (-1))).setCell ⟨gy, 8, none⟩ (.int .i64 0)).setCell ⟨gy, 9, none⟩ (.bool op)) gx [.int .u32 (id : Int), .int .u32 (ev : Int), .int .i64 mem, .int .i64 chunk, .int .i64 rows, .int .i64 log, .int .i64 0, .int .i64 (-1), .int .i64 0, .bool op]) := ((((((((((Px.out.other ⟨gy, 0, none⟩ nyx (.int .u32 (id : Int))).other ⟨gy, 1, none⟩ nyx (.int .u32 (ev : Int))).other ⟨gy, 2, none⟩ nyx (.int .i64 mem)).other ⟨gy, 3, none⟩ nyx (.int .i64 chunk)).other ⟨gy, 4, none⟩ nyx (.int .i64 rows)).other ⟨gy, 5, none⟩ nyx (.int .i64 log)).other ⟨gy, 6, none⟩ nyx (.int .i64 0)).other ⟨gy, 7, none⟩ nyx (.int .i64 (-1))).other ⟨gy, 8, none⟩ nyx (.int .i64 0)).other ⟨gy, 9, none⟩ nyx (.bool op))
        replace Pz : Hid (Bx ((((((((((sx.setCell ⟨gy, 0, none⟩ (.int .u32 (id : Int))).setCell ⟨gy, 1, none⟩ (.int .u32 (ev : Int))).setCell ⟨gy, 2, none⟩ (.int .i64 mem)).setCell ⟨gy, 3, none⟩ (.int .i64 chunk)).setCell ⟨gy, 4, none⟩ (.int .i64 rows)).setCell ⟨gy, 5, none⟩ (.int .i64 log)).setCell ⟨gy, 6, none⟩ (.int .i64 0)).setCell ⟨gy, 7, none⟩ (.int .i64 (-1))).setCell ⟨gy, 8, none⟩ (.int .i64 0)).setCell ⟨gy, 9, none⟩ (.bool op)) gz [.int .u32 0, .int .u32 0, .int .i64 0, .int .i64 0, .int .i64 0, .int .i64 0, .int .i64 0, .int .i64 0, .int .i64 0, .bool false]) := ((((((((((Pz.out.other ⟨gy, 0, none⟩ nyz (.int .u32 (id : Int))).other ⟨gy, 1, none⟩ nyz (.int .u32 (ev : Int))).other ⟨gy, 2, none⟩ nyz (.int .i64 mem)).other ⟨gy, 3, none⟩ nyz (.int .i64 chunk)).other ⟨gy, 4, none⟩ nyz (.int .i64 rows)).other ⟨gy, 5, none⟩ nyz (.int .i64 log)).other ⟨gy, 6, none⟩ nyz (.int .i64 0)).other ⟨gy, 7, none⟩ nyz (.int .i64 (-1))).other ⟨gy, 8, none⟩ nyz (.int .i64 0)).other ⟨gy, 9, none⟩ nyz (.bool op))
        replace Py : Hid (Bx ((((((((((sx.setCell ⟨gy, 0, none⟩ (.int .u32 (id : Int))).setCell ⟨gy, 1, none⟩ (.int .u32 (ev : Int))).setCell ⟨gy, 2, none⟩ (.int .i64 mem)).setCell ⟨gy, 3, none⟩ (.int .i64 chunk)).setCell ⟨gy, 4, none⟩ (.int .i64 rows)).setCell ⟨gy, 5, none⟩ (.int .i64 log)).setCell ⟨gy, 6, none⟩ (.int .i64 0)).setCell ⟨gy, 7, none⟩ (.int .i64 (-1))).setCell ⟨gy, 8, none⟩ (.int .i64 0)).setCell ⟨gy, 9, none⟩ (.bool op)) gy [.int .u32 (id : Int), .int .u32 (ev : Int), .int .i64 mem, .int .i64 chunk, .int .i64 rows, .int .i64 log, .int .i64 0, .int .i64 (-1), .int .i64 0, .bool op]) := ((((((((((Py.out.set 0 (.int .u32 (id : Int))).set 1 (.int .u32 (ev : Int))).set 2 (.int .i64 mem)).set 3 (.int .i64 chunk)).set 4 (.int .i64 rows)).set 5 (.int .i64 log)).set 6 (.int .i64 0)).set 7 (.int .i64 (-1))).set 8 (.int .i64 0)).set 9 (.bool op))
        clear xc0 xf0 xc1 xf1 xc2 xf2 xc3 xf3 xc4 xf4 xc5 xf5 xc6 xf6 xc7 xf7 xc8 xf8 xc9 xf9 yc0 yf0 yc1 yf1 yc2 yf2 yc3 yf3 yc4 yf4 yc5 yf5 yc6 yf6 yc7 yf7 yc8 yf8 yc9 yf9 zc0 zf0 zc1 zf1 zc2 zf2 zc3 zf3 zc4 zf4 zc5 zf5 zc6 zf6 zc7 zf7 zc8 zf8 zc9 zf9 ltx lty ltz
        generalize ((((((((((sx.setCell ⟨gy, 0, none⟩ (.int .u32 (id : Int))).setCell ⟨gy, 1, none⟩ (.int .u32 (ev : Int))).setCell ⟨gy, 2, none⟩ (.int .i64 mem)).setCell ⟨gy, 3, none⟩ (.int .i64 chunk)).setCell ⟨gy, 4, none⟩ (.int .i64 rows)).setCell ⟨gy, 5, none⟩ (.int .i64 log)).setCell ⟨gy, 6, none⟩ (.int .i64 0)).setCell ⟨gy, 7, none⟩ (.int .i64 (-1))).setCell ⟨gy, 8, none⟩ (.int .i64 0)).setCell ⟨gy, 9, none⟩ (.bool op)) = sy at *
        obtain ⟨xc0, xc1, xc2, xc3, xc4, xc5, xc6, xc7, xc8, xc9⟩ := Px.out.ten
        obtain ⟨xf0, xf1, xf2, xf3, xf4, xf5, xf6, xf7, xf8, xf9⟩ := Px.out.froz10
        have ltx := Px.out.lt
        obtain ⟨yc0, yc1, yc2, yc3, yc4, yc5, yc6, yc7, yc8, yc9⟩ := Py.out.ten
        obtain ⟨yf0, yf1, yf2, yf3, yf4, yf5, yf6, yf7, yf8, yf9⟩ := Py.out.froz10
        have lty := Py.out.lt
        obtain ⟨zc0, zc1, zc2, zc3, zc4, zc5, zc6, zc7, zc8, zc9⟩ := Pz.out.ten
        obtain ⟨zf0, zf1, zf2, zf3, zf4, zf5, zf6, zf7, zf8, zf9⟩ := Pz.out.froz10
        have ltz := Pz.out.lt
        refine hKq.out _ _ (Jy.out) (fun hHeld => ?_)
        clear hKq Kq
        (try simp only [Act.put, List.setIfInBounds_toArray, List.set_cons_zero, List.set_cons_succ])
        refine PX.wpAnyY_one (i := 8) (o := ?_) (by kernel_rfl) ?_ (fun Kq hKq => ?_)
        rotate_left
        · simp only [List.getElem?_toArray, List.getElem?_cons_succ, List.getElem?_cons_zero]; rfl
        go_simp
        have Jz : Hid (Below W3.heap.size W3 ((((((((((sy.setCell ⟨gz, 0, none⟩ (.int .u32 (id : Int))).setCell ⟨gz, 1, none⟩ (.int .u32 (ev : Int))).setCell ⟨gz, 2, none⟩ (.int .i64 mem)).setCell ⟨gz, 3, none⟩ (.int .i64 chunk)).setCell ⟨gz, 4, none⟩ (.int .i64 rows)).setCell ⟨gz, 5, none⟩ (.int .i64 log)).setCell ⟨gz, 6, none⟩ (.int .i64 0)).setCell ⟨gz, 7, none⟩ (.int .i64 (-1))).setCell ⟨gz, 8, none⟩ (.int .i64 0)).setCell ⟨gz, 9, none⟩ (.bool op))) := ((((((((((hHeld.setCell gz0.out (.int .u32 (id : Int))).setCell gz0.out (.int .u32 (ev : Int))).setCell gz0.out (.int .i64 mem)).setCell gz0.out (.int .i64 chunk)).setCell gz0.out (.int .i64 rows)).setCell gz0.out (.int .i64 log)).setCell gz0.out (.int .i64 0)).setCell gz0.out (.int .i64 (-1))).setCell gz0.out (.int .i64 0)).setCell gz0.out (.bool op))
        replace Px : Hid (Bx ((((((((((sy.setCell ⟨gz, 0, none⟩ (.int .u32 (id : Int))).setCell ⟨gz, 1, none⟩ (.int .u32 (ev : Int))).setCell ⟨gz, 2, none⟩ (.int .i64 mem)).setCell ⟨gz, 3, none⟩ (.int .i64 chunk)).setCell ⟨gz, 4, none⟩ (.int .i64 rows)).setCell ⟨gz, 5, none⟩ (.int .i64 log)).setCell ⟨gz, 6, none⟩ (.int .i64 0)).setCell ⟨gz, 7, none⟩ (.int .i64 (-1))).setCell ⟨gz, 8, none⟩ (.int .i64 0)).setCell ⟨gz, 9, none⟩ (.bool op)) gx [.int .u32 (id : Int), .int .u32 (ev : Int), .int .i64 mem, .int .i64 chunk, .int .i64 rows, .int .i64 log, .int .i64 0, .int .i64 (-1), .int .i64 0, .bool op]) := ((((((((((Px.out.other ⟨gz, 0, none⟩ nxz.symm (.int .u32 (id : Int))).other ⟨gz, 1, none⟩ nxz.symm (.int .u32 (ev : Int))).other ⟨gz, 2, none⟩ nxz.symm (.int .i64 mem)).other ⟨gz, 3, none⟩ nxz.symm (.int .i64 chunk)).other ⟨gz, 4, none⟩ nxz.symm (.int .i64 rows)).other ⟨gz, 5, none⟩ nxz.symm (.int .i64 log)).other ⟨gz, 6, none⟩ nxz.symm (.int .i64 0)).other ⟨gz, 7, none⟩ nxz.symm (.int .i64 (-1))).other ⟨gz, 8, none⟩ nxz.symm (.int .i64 0)).other ⟨gz, 9, none⟩ nxz.symm (.bool op))
        replace Py : Hid (Bx ((((((((((sy.setCell ⟨gz, 0, none⟩ (.int .u32 (id : Int))).setCell ⟨gz, 1, none⟩ (.int .u32 (ev : Int))).setCell ⟨gz, 2, none⟩ (.int .i64 mem)).setCell ⟨gz, 3, none⟩ (.int .i64 chunk)).setCell ⟨gz, 4, none⟩ (.int .i64 rows)).setCell ⟨gz, 5, none⟩ (.int .i64 log)).setCell ⟨gz, 6, none⟩ (.int .i64 0)).setCell ⟨gz, 7, none⟩ (.int .i64 (-1))).setCell ⟨gz, 8, none⟩ (.int .i64 0)).setCell ⟨gz, 9, none⟩ (.bool op)) gy [.int .u32 (id : Int), .int .u32 (ev : Int), .int .i64 mem, .int .i64 chunk, .int .i64 rows, .int .i64 log, .int .i64 0, .int .i64 (-1), .int .i64 0, .bool op]) := ((((((((((Py.out.other ⟨gz, 0, none⟩ nyz.symm (.int .u32 (id : Int))).other ⟨gz, 1, none⟩ nyz.symm (.int .u32 (ev : Int))).other ⟨gz, 2, none⟩ nyz.symm (.int .i64 mem)).other ⟨gz, 3, none⟩ nyz.symm (.int .i64 chunk)).other ⟨gz, 4, none⟩ nyz.symm (.int .i64 rows)).other ⟨gz, 5, none⟩ nyz.symm (.int .i64 log)).other ⟨gz, 6, none⟩ nyz.symm (.int .i64 0)).other ⟨gz, 7, none⟩ nyz.symm (.int .i64 (-1))).other ⟨gz, 8, none⟩ nyz.symm (.int .i64 0)).other ⟨gz, 9, none⟩ nyz.symm (.bool op))
        replace Pz : Hid (Bx ((((((((((sy.setCell ⟨gz, 0, none⟩ (.int .u32 (id : Int))).setCell ⟨gz, 1, none⟩ (.int .u32 (ev : Int))).setCell ⟨gz, 2, none⟩ (.int .i64 mem)).setCell ⟨gz, 3, none⟩ (.int .i64 chunk)).setCell ⟨gz, 4, none⟩ (.int .i64 rows)).setCell ⟨gz, 5, none⟩ (.int .i64 log)).setCell ⟨gz, 6, none⟩ (.int .i64 0)).setCell ⟨gz, 7, none⟩ (.int .i64 (-1))).setCell ⟨gz, 8, none⟩ (.int .i64 0)).setCell ⟨gz, 9, none⟩ (.bool op)) gz [.int .u32 (id : Int), .int .u32 (ev : Int), .int .i64 mem, .int .i64 chunk, .int .i64 rows, .int .i64 log, .int .i64 0, .int .i64 (-1), .int .i64 0, .bool op]) := ((((((((((Pz.out.set 0 (.int .u32 (id : Int))).set 1 (.int .u32 (ev : Int))).set 2 (.int .i64 mem)).set 3 (.int .i64 chunk)).set 4 (.int .i64 rows)).set 5 (.int .i64 log)).set 6 (.int .i64 0)).set 7 (.int .i64 (-1))).set 8 (.int .i64 0)).set 9 (.bool op))
        clear xc0 xf0 xc1 xf1 xc2 xf2 xc3 xf3 xc4 xf4 xc5 xf5 xc6 xf6 xc7 xf7 xc8 xf8 xc9 xf9 yc0 yf0 yc1 yf1 yc2 yf2 yc3 yf3 yc4 yf4 yc5 yf5 yc6 yf6 yc7 yf7 yc8 yf8 yc9 yf9 zc0 zf0 zc1 zf1 zc2 zf2 zc3 zf3 zc4 zf4 zc5 zf5 zc6 zf6 zc7 zf7 zc8 zf8 zc9 zf9 ltx lty ltz
        generalize ((((((((((sy.setCell ⟨gz, 0, none⟩ (.int .u32 (id : Int))).setCell ⟨gz, 1, none⟩ (.int .u32 (ev : Int))).setCell ⟨gz, 2, none⟩ (.int .i64 mem)).setCell ⟨gz, 3, none⟩ (.int .i64 chunk)).setCell ⟨gz, 4, none⟩ (.int .i64 rows)).setCell ⟨gz, 5, none⟩ (.int .i64 log)).setCell ⟨gz, 6, none⟩ (.int .i64 0)).setCell ⟨gz, 7, none⟩ (.int .i64 (-1))).setCell ⟨gz, 8, none⟩ (.int .i64 0)).setCell ⟨gz, 9, none⟩ (.bool op)) = sz at *
        obtain ⟨xc0, xc1, xc2, xc3, xc4, xc5, xc6, xc7, xc8, xc9⟩ := Px.out.ten
        obtain ⟨xf0, xf1, xf2, xf3, xf4, xf5, xf6, xf7, xf8, xf9⟩ := Px.out.froz10
        have ltx := Px.out.lt
        obtain ⟨yc0, yc1, yc2, yc3, yc4, yc5, yc6, yc7, yc8, yc9⟩ := Py.out.ten
        obtain ⟨yf0, yf1, yf2, yf3, yf4, yf5, yf6, yf7, yf8, yf9⟩ := Py.out.froz10
        have lty := Py.out.lt
        obtain ⟨zc0, zc1, zc2, zc3, zc4, zc5, zc6, zc7, zc8, zc9⟩ := Pz.out.ten
        obtain ⟨zf0, zf1, zf2, zf3, zf4, zf5, zf6, zf7, zf8, zf9⟩ := Pz.out.froz10
        have ltz := Pz.out.lt
        refine hKq.out _ _ (Jz.out) (fun hHeld => ?_)
        clear hKq Kq
        (try simp only [Act.put, List.setIfInBounds_toArray, List.set_cons_zero, List.set_cons_succ])
        refine PX.wpAnyY_done (by kernel_rfl) ?_ _
        refine NoPanic.normal ?_
        clear hHeld
        have nq1 : gx ≠ gy := by first | exact nxy | exact nyx.symm
        have nq2 : gx ≠ gz := by first | exact nxz | exact nzx.symm
        have nq3 : gy ≠ gz := by first | exact nyz | exact nzy.symm
        have nq4 := nq1.symm
        have nq5 := nq2.symm
        have nq6 := nq3.symm
        have ltW : w.heap.size < W3.heap.size := BX.out.lt
        have nw1 : gx ≠ w.heap.size := by have := gx0.out; omega
        have nw2 : gy ≠ w.heap.size := by have := gy0.out; omega
        have nw3 : gz ≠ w.heap.size := by have := gz0.out; omega
        have BW := Lib.hid (BX.out.here Jz.out)
        have QX : Hid (Bx ((((sz.setCell ⟨gx, 6, none⟩ (.int .i64 me2)).setCell ⟨gy, 7, none⟩ (.int .i64 lost2)).setCell ⟨gz, 7, none⟩ (.int .i64 0)).setCell ⟨gz, 8, none⟩ (.int .i64 done2)) gx [.int .u32 (id : Int), .int .u32 (ev : Int), .int .i64 mem, .int .i64 chunk, .int .i64 rows, .int .i64 log, .int .i64 me2, .int .i64 (-1), .int .i64 0, .bool op]) := (((Px.out.set 6 (.int .i64 me2)).other ⟨gy, 7, none⟩ nq4 _).other ⟨gz, 7, none⟩ nq5 _).other ⟨gz, 8, none⟩ nq5 _
        have QY : Hid (Bx ((((sz.setCell ⟨gx, 6, none⟩ (.int .i64 me2)).setCell ⟨gy, 7, none⟩ (.int .i64 lost2)).setCell ⟨gz, 7, none⟩ (.int .i64 0)).setCell ⟨gz, 8, none⟩ (.int .i64 done2)) gy [.int .u32 (id : Int), .int .u32 (ev : Int), .int .i64 mem, .int .i64 chunk, .int .i64 rows, .int .i64 log, .int .i64 0, .int .i64 lost2, .int .i64 0, .bool op]) := (((Py.out.other ⟨gx, 6, none⟩ nq1 _).set 7 (.int .i64 lost2)).other ⟨gz, 7, none⟩ nq6 _).other ⟨gz, 8, none⟩ nq6 _
        have QZ : Hid (Bx ((((sz.setCell ⟨gx, 6, none⟩ (.int .i64 me2)).setCell ⟨gy, 7, none⟩ (.int .i64 lost2)).setCell ⟨gz, 7, none⟩ (.int .i64 0)).setCell ⟨gz, 8, none⟩ (.int .i64 done2)) gz [.int .u32 (id : Int), .int .u32 (ev : Int), .int .i64 mem, .int .i64 chunk, .int .i64 rows, .int .i64 log, .int .i64 0, .int .i64 0, .int .i64 done2, .bool op]) := (((Pz.out.other ⟨gx, 6, none⟩ nq2 _).other ⟨gy, 7, none⟩ nq3 _).set 7 (.int .i64 0)).set 8 (.int .i64 done2)
        have QW : Hid (Bx ((((sz.setCell ⟨gx, 6, none⟩ (.int .i64 me2)).setCell ⟨gy, 7, none⟩ (.int .i64 lost2)).setCell ⟨gz, 7, none⟩ (.int .i64 0)).setCell ⟨gz, 8, none⟩ (.int .i64 done2)) w.heap.size [.int .u32 (id : Int), .int .u32 (ev : Int), .int .i64 mem, .int .i64 chunk, .int .i64 rows, .int .i64 log, .int .i64 0, .int .i64 (-1), .int .i64 0, .bool op]) := (((BW.out.other ⟨gx, 6, none⟩ nw1 _).other ⟨gy, 7, none⟩ nw2 _).other ⟨gz, 7, none⟩ nw3 _).other ⟨gz, 8, none⟩ nw3 _
        have J4 : Hid (Below W3.heap.size W3 ((((sz.setCell ⟨gx, 6, none⟩ (.int .i64 me2)).setCell ⟨gy, 7, none⟩ (.int .i64 lost2)).setCell ⟨gz, 7, none⟩ (.int .i64 0)).setCell ⟨gz, 8, none⟩ (.int .i64 done2))) := (((Jz.out.setCell gx0.out _).setCell gy0.out _).setCell gz0.out _).setCell gz0.out _
        go_wp2_with fail
        clear xc0 xf0 xc1 xf1 xc2 xf2 xc3 xf3 xc4 xf4 xc5 xf5 xc6 xf6 xc7 xf7 xc8 xf8 xc9 xf9 yc0 yf0 yc1 yf1 yc2 yf2 yc3 yf3 yc4 yf4 yc5 yf5 yc6 yf6 yc7 yf7 yc8 yf8 yc9 yf9 zc0 zf0 zc1 zf1 zc2 zf2 zc3 zf3 zc4 zf4 zc5 zf5 zc6 zf6 zc7 zf7 zc8 zf8 zc9 zf9 ltx lty ltz c0 c1 c2 c3 c4 c5 c6 c7 c8 c9 ltBX BX BW Px Py Pz
        have B4 := Lib.hid (B3.out.trans (J4.out.mono B3.out.size))
        clear J4 Jx Jy Jz B3 nq1 nq2 nq3 nq4 nq5 nq6 nw1 nw2 nw3 ltW
        generalize ((((sz.setCell ⟨gx, 6, none⟩ (.int .i64 me2)).setCell ⟨gy, 7, none⟩ (.int .i64 lost2)).setCell ⟨gz, 7, none⟩ (.int .i64 0)).setCell ⟨gz, 8, none⟩ (.int .i64 done2)) = w4 at *
        (with_reducible refine (KX.out _).mono ?_)
        rintro e w5 ⟨rfl, b5⟩
        replace QX := Lib.hid (QX.out.here b5)
        replace QY := Lib.hid (QY.out.here b5)
        replace QZ := Lib.hid (QZ.out.here b5)
        replace QW := Lib.hid (QW.out.here b5)
        have B5 := Lib.hid (thence B4.out b5 (Nat.le_refl _))
        clear b5 B4
        obtain ⟨x0, x1, x2, x3, x4, x5, x6, x7, x8, x9⟩ := QX.out.ten
        have ltQX := QX.out.lt
        obtain ⟨y0, y1, y2, y3, y4, y5, y6, y7, y8, y9⟩ := QY.out.ten
        have ltQY := QY.out.lt
        obtain ⟨z0, z1, z2, z3, z4, z5, z6, z7, z8, z9⟩ := QZ.out.ten
        have ltQZ := QZ.out.lt
        obtain ⟨c0, c1, c2, c3, c4, c5, c6, c7, c8, c9⟩ := QW.out.ten
        have ltQW := QW.out.lt
        go_wp2_with fail
        (with_reducible refine (KY.out _).mono ?_)
        rintro e w6 ⟨rfl, b6⟩
        clear x0 x1 x2 x3 x4 x5 x6 x7 x8 x9 y0 y1 y2 y3 y4 y5 y6 y7 y8 y9 z0 z1 z2 z3 z4 z5 z6 z7 z8 z9 c0 c1 c2 c3 c4 c5 c6 c7 c8 c9 ltQX ltQY ltQZ ltQW
        replace QX := Lib.hid (QX.out.here b6)
        replace QY := Lib.hid (QY.out.here b6)
        replace QZ := Lib.hid (QZ.out.here b6)
        replace QW := Lib.hid (QW.out.here b6)
        have B6 := Lib.hid (thence B5.out b6 (Nat.le_refl _))
        clear b6 B5
        obtain ⟨x0, x1, x2, x3, x4, x5, x6, x7, x8, x9⟩ := QX.out.ten
        have ltQX := QX.out.lt
        obtain ⟨y0, y1, y2, y3, y4, y5, y6, y7, y8, y9⟩ := QY.out.ten
        have ltQY := QY.out.lt
        obtain ⟨z0, z1, z2, z3, z4, z5, z6, z7, z8, z9⟩ := QZ.out.ten
        have ltQZ := QZ.out.lt
        obtain ⟨c0, c1, c2, c3, c4, c5, c6, c7, c8, c9⟩ := QW.out.ten
        have ltQW := QW.out.lt
        go_wp2_with fail
        (with_reducible refine (KZ.out _).mono ?_)
        rintro e w7 ⟨rfl, b7⟩
        clear x0 x1 x2 x3 x4 x5 x6 x7 x8 x9 y0 y1 y2 y3 y4 y5 y6 y7 y8 y9 z0 z1 z2 z3 z4 z5 z6 z7 z8 z9 c0 c1 c2 c3 c4 c5 c6 c7 c8 c9 ltQX ltQY ltQZ ltQW
        replace QX := Lib.hid (QX.out.here b7)
        replace QY := Lib.hid (QY.out.here b7)
        replace QZ := Lib.hid (QZ.out.here b7)
        replace QW := Lib.hid (QW.out.here b7)
        have B7 := Lib.hid (thence B6.out b7 (Nat.le_refl _))
        clear b7 B6
        obtain ⟨x0, x1, x2, x3, x4, x5, x6, x7, x8, x9⟩ := QX.out.ten
        have ltQX := QX.out.lt
        obtain ⟨y0, y1, y2, y3, y4, y5, y6, y7, y8, y9⟩ := QY.out.ten
        have ltQY := QY.out.lt
        obtain ⟨z0, z1, z2, z3, z4, z5, z6, z7, z8, z9⟩ := QZ.out.ten
        have ltQZ := QZ.out.lt
        obtain ⟨c0, c1, c2, c3, c4, c5, c6, c7, c8, c9⟩ := QW.out.ten
        have ltQW := QW.out.lt
        have ex := EX.out
        have ey := EY.out
        have ez := EZ.out
        have hw := HW.out
        go_wp2_with fail
        all_goals
          go_ret
          exact ⟨rfl, B7.out⟩
      · go_simp
        have hl : Below ay.heap.size ay (ay.alloc (.cells #[.int .u32 0, .int .u32 0, .int .i64 0, .int .i64 0, .int .i64 0, .int .i64 0, .int .i64 0, .int .i64 0, .int .i64 0, .bool false] 28)) := (Below.refl _ _).alloc (Nat.le_refl _) _
        have Hz : Hid (Below W3.heap.size W3 (ay.alloc (.cells #[.int .u32 0, .int .u32 0, .int .i64 0, .int .i64 0, .int .i64 0, .int .i64 0, .int .i64 0, .int .i64 0, .int .i64 0, .bool false] 28))) := (thence hHeld hl (Nat.le_refl _))
        have Pz : Hid (Bx (ay.alloc (.cells #[.int .u32 0, .int .u32 0, .int .i64 0, .int .i64 0, .int .i64 0, .int .i64 0, .int .i64 0, .int .i64 0, .int .i64 0, .bool false] 28)) ay.heap.size [.int .u32 0, .int .u32 0, .int .i64 0, .int .i64 0, .int .i64 0, .int .i64 0, .int .i64 0, .int .i64 0, .int .i64 0, .bool false]) := Bx.new ay [.int .u32 0, .int .u32 0, .int .i64 0, .int .i64 0, .int .i64 0, .int .i64 0, .int .i64 0, .int .i64 0, .int .i64 0, .bool false] 28
        have gz0 : Hid (W3.heap.size ≤ ay.heap.size) := hHeld.size
        replace Py := Lib.hid (Py.out.here hl)
        have nyz : gy ≠ ay.heap.size := Nat.ne_of_lt lty
        clear hl
        generalize (ay.alloc (.cells #[.int .u32 0, .int .u32 0, .int .i64 0, .int .i64 0, .int .i64 0, .int .i64 0, .int .i64 0, .int .i64 0, .int .i64 0, .bool false] 28)) = az at *
        obtain ⟨gz, hG⟩ : ∃ gb, ay.heap.size = gb := ⟨_, rfl⟩
        rw [hG] at nyz
        rw [hG] at Pz ⊢
        replace gz0 : Hid (W3.heap.size ≤ gz) := hG ▸ gz0.out
        clear hG
        clear lty
        have lty := Py.out.lt
        have ltz := Pz.out.lt
        refine hKq.out _ _ (Hz.out) (fun hHeld => ?_)
        clear hKq Kq
        (try simp only [Act.put, List.setIfInBounds_toArray, List.set_cons_zero, List.set_cons_succ])
        refine PX.wpAnyY_one (i := 3) (o := ?_) (by kernel_rfl) ?_ (fun Kq hKq => ?_)
        rotate_left
        · simp only [List.getElem?_toArray, List.getElem?_cons_succ, List.getElem?_cons_zero]; rfl
        go_simp
        have hl : Below az.heap.size az (az.alloc (.cells #[.int .u32 0, .int .u32 0, .int .i64 0, .int .i64 0, .int .i64 0, .int .i64 0, .int .i64 0, .int .i64 0, .int .i64 0, .bool false] 28)) := (Below.refl _ _).alloc (Nat.le_refl _) _
        have Hx : Hid (Below W3.heap.size W3 (az.alloc (.cells #[.int .u32 0, .int .u32 0, .int .i64 0, .int .i64 0, .int .i64 0, .int .i64 0, .int .i64 0, .int .i64 0, .int .i64 0, .bool false] 28))) := (thence hHeld hl (Nat.le_refl _))
        have Px : Hid (Bx (az.alloc (.cells #[.int .u32 0, .int .u32 0, .int .i64 0, .int .i64 0, .int .i64 0, .int .i64 0, .int .i64 0, .int .i64 0, .int .i64 0, .bool false] 28)) az.heap.size [.int .u32 0, .int .u32 0, .int .i64 0, .int .i64 0, .int .i64 0, .int .i64 0, .int .i64 0, .int .i64 0, .int .i64 0, .bool false]) := Bx.new az [.int .u32 0, .int .u32 0, .int .i64 0, .int .i64 0, .int .i64 0, .int .i64 0, .int .i64 0, .int .i64 0, .int .i64 0, .bool false] 28
        have gx0 : Hid (W3.heap.size ≤ az.heap.size) := hHeld.size
        replace Py := Lib.hid (Py.out.here hl)
        have nyx : gy ≠ az.heap.size := Nat.ne_of_lt lty
        replace Pz := Lib.hid (Pz.out.here hl)
        have nzx : gz ≠ az.heap.size := Nat.ne_of_lt ltz
        clear hl
        generalize (az.alloc (.cells #[.int .u32 0, .int .u32 0, .int .i64 0, .int .i64 0, .int .i64 0, .int .i64 0, .int .i64 0, .int .i64 0, .int .i64 0, .bool false] 28)) = ax at *
        obtain ⟨gx, hG⟩ : ∃ gb, az.heap.size = gb := ⟨_, rfl⟩
        rw [hG] at nyx
        rw [hG] at nzx
        rw [hG] at Px ⊢
        replace gx0 : Hid (W3.heap.size ≤ gx) := hG ▸ gx0.out
        clear hG
        clear lty
        clear ltz
        have lty := Py.out.lt
        have ltz := Pz.out.lt
        have ltx := Px.out.lt
        obtain ⟨xc0, xc1, xc2, xc3, xc4, xc5, xc6, xc7, xc8, xc9⟩ := Px.out.ten
        obtain ⟨xf0, xf1, xf2, xf3, xf4, xf5, xf6, xf7, xf8, xf9⟩ := Px.out.froz10
        obtain ⟨yc0, yc1, yc2, yc3, yc4, yc5, yc6, yc7, yc8, yc9⟩ := Py.out.ten
        obtain ⟨yf0, yf1, yf2, yf3, yf4, yf5, yf6, yf7, yf8, yf9⟩ := Py.out.froz10
        obtain ⟨zc0, zc1, zc2, zc3, zc4, zc5, zc6, zc7, zc8, zc9⟩ := Pz.out.ten
        obtain ⟨zf0, zf1, zf2, zf3, zf4, zf5, zf6, zf7, zf8, zf9⟩ := Pz.out.froz10
        refine hKq.out _ _ (Hx.out) (fun hHeld => ?_)
        clear hKq Kq
        (try simp only [Act.put, List.setIfInBounds_toArray, List.set_cons_zero, List.set_cons_succ])
        refine PX.wpAnyY_one (i := 6) (o := ?_) (by kernel_rfl) ?_ (fun Kq hKq => ?_)
        rotate_left
        · simp only [List.getElem?_toArray, List.getElem?_cons_succ, List.getElem?_cons_zero]; rfl
        go_simp
        have Jx : Hid (Below W3.heap.size W3 ((((((((((ax.setCell ⟨gx, 0, none⟩ (.int .u32 (id : Int))).setCell ⟨gx, 1, none⟩ (.int .u32 (ev : Int))).setCell ⟨gx, 2, none⟩ (.int .i64 mem)).setCell ⟨gx, 3, none⟩ (.int .i64 chunk)).setCell ⟨gx, 4, none⟩ (.int .i64 rows)).setCell ⟨gx, 5, none⟩ (.int .i64 log)).setCell ⟨gx, 6, none⟩ (.int .i64 0)).setCell ⟨gx, 7, none⟩ (.int .i64 (-1))).setCell ⟨gx, 8, none⟩ (.int .i64 0)).setCell ⟨gx, 9, none⟩ (.bool op))) := ((((((((((hHeld.setCell gx0.out (.int .u32 (id : Int))).setCell gx0.out (.int .u32 (ev : Int))).setCell gx0.out (.int .i64 mem)).setCell gx0.out (.int .i64 chunk)).setCell gx0.out (.int .i64 rows)).setCell gx0.out (.int .i64 log)).setCell gx0.out (.int .i64 0)).setCell gx0.out (.int .i64 (-1))).setCell gx0.out (.int .i64 0)).setCell gx0.out (.bool op))
        replace Py : Hid (Bx ((((((((((ax.setCell ⟨gx, 0, none⟩ (.int .u32 (id : Int))).setCell ⟨gx, 1, none⟩ (.int .u32 (ev : Int))).setCell ⟨gx, 2, none⟩ (.int .i64 mem)).setCell ⟨gx, 3, none⟩ (.int .i64 chunk)).setCell ⟨gx, 4, none⟩ (.int .i64 rows)).setCell ⟨gx, 5, none⟩ (.int .i64 log)).setCell ⟨gx, 6, none⟩ (.int .i64 0)).setCell ⟨gx, 7, none⟩ (.int .i64 (-1))).setCell ⟨gx, 8, none⟩ (.int .i64 0)).setCell ⟨gx, 9, none⟩ (.bool op)) gy [.int .u32 0, .int .u32 0, .int .i64 0, .int .i64 0, .int .i64 0, .int .i64 0, .int .i64 0, .int .i64 0, .int .i64 0, .bool false]) := ((((((((((Py.out.other ⟨gx, 0, none⟩ nyx.symm (.int .u32 (id : Int))).other ⟨gx, 1, none⟩ nyx.symm (.int .u32 (ev : Int))).other ⟨gx, 2, none⟩ nyx.symm (.int .i64 mem)).other ⟨gx, 3, none⟩ nyx.symm (.int .i64 chunk)).other ⟨gx, 4, none⟩ nyx.symm (.int .i64 rows)).other ⟨gx, 5, none⟩ nyx.symm (.int .i64 log)).other ⟨gx, 6, none⟩ nyx.symm (.int .i64 0)).other ⟨gx, 7, none⟩ nyx.symm (.int .i64 (-1))).other ⟨gx, 8, none⟩ nyx.symm (.int .i64 0)).other ⟨gx, 9, none⟩ nyx.symm (.bool op))
        replace Pz : Hid (Bx ((((((((((ax.setCell ⟨gx, 0, none⟩ (.int .u32 (id : Int))).setCell ⟨gx, 1, none⟩ (.int .u32 (ev : Int))).setCell ⟨gx, 2, none⟩ (.int .i64 mem)).setCell ⟨gx, 3, none⟩ (.int .i64 chunk)).setCell ⟨gx, 4, none⟩ (.int .i64 rows)).setCell ⟨gx, 5, none⟩ (.int .i64 log)).setCell ⟨gx, 6, none⟩ (.int .i64 0)).setCell ⟨gx, 7, none⟩ (.int .i64 (-1))).setCell ⟨gx, 8, none⟩ (.int .i64 0)).setCell ⟨gx, 9, none⟩ (.bool op)) gz [.int .u32 0, .int .u32 0, .int .i64 0, .int .i64 0, .int .i64 0, .int .i64 0, .int .i64 0, .int .i64 0, .int .i64 0, .bool false]) := ((((((((((Pz.out.other ⟨gx, 0, none⟩ nzx.symm (.int .u32 (id : Int))).other ⟨gx, 1, none⟩ nzx.symm (.int .u32 (ev : Int))).other ⟨gx, 2, none⟩ nzx.symm (.int .i64 mem)).other ⟨gx, 3, none⟩ nzx.symm (.int .i64 chunk)).other ⟨gx, 4, none⟩ nzx.symm (.int .i64 rows)).other ⟨gx, 5, none⟩ nzx.symm (.int .i64 log)).other ⟨gx, 6, none⟩ nzx.symm (.int .i64 0)).other ⟨gx, 7, none⟩ nzx.symm (.int .i64 (-1))).other ⟨gx, 8, none⟩ nzx.symm (.int .i64 0)).other ⟨gx, 9, none⟩ nzx.symm (.bool op))
        replace Px : Hid (Bx ((((((((((ax.setCell ⟨gx, 0, none⟩ (.int .u32 (id : Int))).setCell ⟨gx, 1, none⟩ (.int .u32 (ev : Int))).setCell ⟨gx, 2, none⟩ (.int .i64 mem)).setCell ⟨gx, 3, none⟩ (.int .i64 chunk)).setCell ⟨gx, 4, none⟩ (.int .i64 rows)).setCell ⟨gx, 5, none⟩ (.int .i64 log)).setCell ⟨gx, 6, none⟩ (.int .i64 0)).setCell ⟨gx, 7, none⟩ (.int .i64 (-1))).setCell ⟨gx, 8, none⟩ (.int .i64 0)).setCell ⟨gx, 9, none⟩ (.bool op)) gx [.int .u32 (id : Int), .int .u32 (ev : Int), .int .i64 mem, .int .i64 chunk, .int .i64 rows, .int .i64 log, .int .i64 0, .int .i64 (-1), .int .i64 0, .bool op]) := ((((((((((Px.out.set 0 (.int .u32 (id : Int))).set 1 (.int .u32 (ev : Int))).set 2 (.int .i64 mem)).set 3 (.int .i64 chunk)).set 4 (.int .i64 rows)).set 5 (.int .i64 log)).set 6 (.int .i64 0)).set 7 (.int .i64 (-1))).set 8 (.int .i64 0)).set 9 (.bool op))
        clear xc0 xf0 xc1 xf1 xc2 xf2 xc3 xf3 xc4 xf4 xc5 xf5 xc6 xf6 xc7 xf7 xc8 xf8 xc9 xf9 yc0 yf0 yc1 yf1 yc2 yf2 yc3 yf3 yc4 yf4 yc5 yf5 yc6 yf6 yc7 yf7 yc8 yf8 yc9 yf9 zc0 zf0 zc1 zf1 zc2 zf2 zc3 zf3 zc4 zf4 zc5 zf5 zc6 zf6 zc7 zf7 zc8 zf8 zc9 zf9 ltx lty ltz
        generalize ((((((((((ax.setCell ⟨gx, 0, none⟩ (.int .u32 (id : Int))).setCell ⟨gx, 1, none⟩ (.int .u32 (ev : Int))).setCell ⟨gx, 2, none⟩ (.int .i64 mem)).setCell ⟨gx, 3, none⟩ (.int .i64 chunk)).setCell ⟨gx, 4, none⟩ (.int .i64 rows)).setCell ⟨gx, 5, none⟩ (.int .i64 log)).setCell ⟨gx, 6, none⟩ (.int .i64 0)).setCell ⟨gx, 7, none⟩ (.int .i64 (-1))).setCell ⟨gx, 8, none⟩ (.int .i64 0)).setCell ⟨gx, 9, none⟩ (.bool op)) = sx at *
        obtain ⟨xc0, xc1, xc2, xc3, xc4, xc5, xc6, xc7, xc8, xc9⟩ := Px.out.ten
        obtain ⟨xf0, xf1, xf2, xf3, xf4, xf5, xf6, xf7, xf8, xf9⟩ := Px.out.froz10
        have ltx := Px.out.lt
        obtain ⟨yc0, yc1, yc2, yc3, yc4, yc5, yc6, yc7, yc8, yc9⟩ := Py.out.ten
        obtain ⟨yf0, yf1, yf2, yf3, yf4, yf5, yf6, yf7, yf8, yf9⟩ := Py.out.froz10
        have lty := Py.out.lt
        obtain ⟨zc0, zc1, zc2, zc3, zc4, zc5, zc6, zc7, zc8, zc9⟩ := Pz.out.ten
        obtain ⟨zf0, zf1, zf2, zf3, zf4, zf5, zf6, zf7, zf8, zf9⟩ := Pz.out.froz10
        have ltz := Pz.out.lt
        refine hKq.out _ _ (Jx.out) (fun hHeld => ?_)
        clear hKq Kq
        (try simp only [Act.put, List.setIfInBounds_toArray, List.set_cons_zero, List.set_cons_succ])
        refine PX.wpAnyY_one (i := 7) (o := ?_) (by kernel_rfl) ?_ (fun Kq hKq => ?_)
        rotate_left
        · simp only [List.getElem?_toArray, List.getElem?_cons_succ, List.getElem?_cons_zero]; rfl
        go_simp
        have Jy : Hid (Below W3.heap.size W3 ((((((((((sx.setCell ⟨gy, 0, none⟩ (.int .u32 (id : Int))).setCell ⟨gy, 1, none⟩ (.int .u32 (ev : Int))).setCell ⟨gy, 2, none⟩ (.int .i64 mem)).setCell ⟨gy, 3, none⟩ (.int .i64 chunk)).setCell ⟨gy, 4, none⟩ (.int .i64 rows)).setCell ⟨gy, 5, none⟩ (.int .i64 log)).setCell ⟨gy, 6, none⟩ (.int .i64 0)).setCell ⟨gy, 7, none⟩ (.int .i64 (-1))).setCell ⟨gy, 8, none⟩ (.int .i64 0)).setCell ⟨gy, 9, none⟩ (.bool op))) := ((((((((((hHeld.setCell gy0.out (.int .u32 (id : Int))).setCell gy0.out (.int .u32 (ev : Int))).setCell gy0.out (.int .i64 mem)).setCell gy0.out (.int .i64 chunk)).setCell gy0.out (.int .i64 rows)).setCell gy0.out (.int .i64 log)).setCell gy0.out (.int .i64 0)).setCell gy0.out (.int .i64 (-1))).setCell gy0.out (.int .i64 0)).setCell gy0.out (.bool op))
        replace Px : Hid (Bx ((((((((((sx.setCell ⟨gy, 0, none⟩ (.int .u32 (id : Int))).setCell ⟨gy, 1, none⟩ (.int .u32 (ev : Int))).setCell ⟨gy, 2, none⟩ (.int .i64 mem)).setCell ⟨gy, 3, none⟩ (.int .i64 chunk)).setCell ⟨gy, 4, none⟩ (.int .i64 rows)).setCell ⟨gy, 5, none⟩ (.int .i64 log)).setCell ⟨gy, 6, none⟩ (.int .i64 0)).setCell ⟨gy, 7, none⟩ (.int .i64 (-1))).setCell ⟨gy, 8, none⟩ (.int .i64 0)).setCell ⟨gy, 9, none⟩ (.bool op)) gx [.int .u32 (id : Int), .int .u32 (ev : Int), .int .i64 mem, .int .i64 chunk, .int .i64 rows, .int .i64 log, .int .i64 0, .int .i64 (-1), .int .i64 0, .bool op]) := ((((((((((Px.out.other ⟨gy, 0, none⟩ nyx (.int .u32 (id : Int))).other ⟨gy, 1, none⟩ nyx (.int .u32 (ev : Int))).other ⟨gy, 2, none⟩ nyx (.int .i64 mem)).other ⟨gy, 3, none⟩ nyx (.int .i64 chunk)).other ⟨gy, 4, none⟩ nyx (.int .i64 rows)).other ⟨gy, 5, none⟩ nyx (.int .i64 log)).other ⟨gy, 6, none⟩ nyx (.int .i64 0)).other ⟨gy, 7, none⟩ nyx (.int .i64 (-1))).other ⟨gy, 8, none⟩ nyx (.int .i64 0)).other ⟨gy, 9, none⟩ nyx (.bool op))
        replace Pz : Hid (Bx ((((((((((sx.setCell ⟨gy, 0, none⟩ (.int .u32 (id : Int))).setCell ⟨gy, 1, none⟩ (.int .u32 (ev : Int))).setCell ⟨gy, 2, none⟩ (.int .i64 mem)).setCell ⟨gy, 3, none⟩ (.int .i64 chunk)).setCell ⟨gy, 4, none⟩ (.int .i64 rows)).setCell ⟨gy, 5, none⟩ (.int .i64 log)).setCell ⟨gy, 6, none⟩ (.int .i64 0)).setCell ⟨gy, 7, none⟩ (.int .i64 (-1))).setCell ⟨gy, 8, none⟩ (.int .i64 0)).setCell ⟨gy, 9, none⟩ (.bool op)) gz [.int .u32 0, .int .u32 0, .int .i64 0, .int .i64 0, .int .i64 0, .int .i64 0, .int .i64 0, .int .i64 0, .int .i64 0, .bool false]) := ((((((((((Pz.out.other ⟨gy, 0, none⟩ nyz (.int .u32 (id : Int))).other ⟨gy, 1, none⟩ nyz (.int .u32 (ev : Int))).other ⟨gy, 2, none⟩ nyz (.int .i64 mem)).other ⟨gy, 3, none⟩ nyz (.int .i64 chunk)).other ⟨gy, 4, none⟩ nyz (.int .i64 rows)).other ⟨gy, 5, none⟩ nyz (.int .i64 log)).other ⟨gy, 6, none⟩ nyz (.int .i64 0)).other ⟨gy, 7, none⟩ nyz (.int .i64 (-1))).other ⟨gy, 8, none⟩ nyz (.int .i64 0)).other ⟨gy, 9, none⟩ nyz (.bool op))
        replace Py : Hid (Bx ((((((((((sx.setCell ⟨gy, 0, none⟩ (.int .u32 (id : Int))).setCell ⟨gy, 1, none⟩ (.int .u32 (ev : Int))).setCell ⟨gy, 2, none⟩ (.int .i64 mem)).setCell ⟨gy, 3, none⟩ (.int .i64 chunk)).setCell ⟨gy, 4, none⟩ (.int .i64 rows)).setCell ⟨gy, 5, none⟩ (.int .i64 log)).setCell ⟨gy, 6, none⟩ (.int .i64 0)).setCell ⟨gy, 7, none⟩ (.int .i64 (-1))).setCell ⟨gy, 8, none⟩ (.int .i64 0)).setCell ⟨gy, 9, none⟩ (.bool op)) gy [.int .u32 (id : Int), .int .u32 (ev : Int), .int .i64 mem, .int .i64 chunk, .int .i64 rows, .int .i64 log, .int .i64 0, .int .i64 (-1), .int .i64 0, .bool op]) := ((((((((((Py.out.set 0 (.int .u32 (id : Int))).set 1 (.int .u32 (ev : Int))).set 2 (.int .i64 mem)).set 3 (.int .i64 chunk)).set 4 (.int .i64 rows)).set 5 (.int .i64 log)).set 6 (.int .i64 0)).set 7 (.int .i64 (-1))).set 8 (.int .i64 0)).set 9 (.bool op))
        clear xc0 xf0 xc1 xf1 xc2 xf2 xc3 xf3 xc4 xf4 xc5 xf5 xc6 xf6 xc7 xf7 xc8 xf8 xc9 xf9 yc0 yf0 yc1 yf1 yc2 yf2 yc3 yf3 yc4 yf4 yc5 yf5 yc6 yf6 yc7 yf7 yc8 yf8 yc9 yf9 zc0 zf0 zc1 zf1 zc2 zf2 zc3 zf3 zc4 zf4 zc5 zf5 zc6 zf6 zc7 zf7 zc8 zf8 zc9 zf9 ltx lty ltz
        generalize ((((((((((sx.setCell ⟨gy, 0, none⟩ (.int .u32 (id : Int))).setCell ⟨gy, 1, none⟩ (.int .u32 (ev : Int))).setCell ⟨gy, 2, none⟩ (.int .i64 mem)).setCell ⟨gy, 3, none⟩ (.int .i64 chunk)).setCell ⟨gy, 4, none⟩ (.int .i64 rows)).setCell ⟨gy, 5, none⟩ (.int .i64 log)).setCell ⟨gy, 6, none⟩ (.int .i64 0)).setCell ⟨gy, 7, none⟩ (.int .i64 (-1))).setCell ⟨gy, 8, none⟩ (.int .i64 0)).setCell ⟨gy, 9, none⟩ (.bool op)) = sy at *
        obtain ⟨xc0, xc1, xc2, xc3, xc4, xc5, xc6, xc7, xc8, xc9⟩ := Px.out.ten
        obtain ⟨xf0, xf1, xf2, xf3, xf4, xf5, xf6, xf7, xf8, xf9⟩ := Px.out.froz10
        have ltx := Px.out.lt
        obtain ⟨yc0, yc1, yc2, yc3, yc4, yc5, yc6, yc7, yc8, yc9⟩ := Py.out.ten
        obtain ⟨yf0, yf1, yf2, yf3, yf4, yf5, yf6, yf7, yf8, yf9⟩ := Py.out.froz10
        have lty := Py.out.lt
        obtain ⟨zc0, zc1, zc2, zc3, zc4, zc5, zc6, zc7, zc8, zc9⟩ := Pz.out.ten
        obtain ⟨zf0, zf1, zf2, zf3, zf4, zf5, zf6, zf7, zf8, zf9⟩ := Pz.out.froz10
        have ltz := Pz.out.lt
        refine hKq.out _ _ (Jy.out) (fun hHeld => ?_)
        clear hKq Kq
        (try simp only [Act.put, List.setIfInBounds_toArray, List.set_cons_zero, List.set_cons_succ])
        refine PX.wpAnyY_one (i := 8) (o := ?_) (by kernel_rfl) ?_ (fun Kq hKq => ?_)
        rotate_left
        · simp only [List.getElem?_toArray, List.getElem?_cons_succ, List.getElem?_cons_zero]; rfl
        go_simp
        have Jz : Hid (Below W3.heap.size W3 ((((((((((sy.setCell ⟨gz, 0, none⟩ (.int .u32 (id : Int))).setCell ⟨gz, 1, none⟩ (.int .u32 (ev : Int))).setCell ⟨gz, 2, none⟩ (.int .i64 mem)).setCell ⟨gz, 3, none⟩ (.int .i64 chunk)).setCell ⟨gz, 4, none⟩ (.int .i64 rows)).setCell ⟨gz, 5, none⟩ (.int .i64 log)).setCell ⟨gz, 6, none⟩ (.int .i64 0)).setCell ⟨gz, 7, none⟩ (.int .i64 (-1))).setCell ⟨gz, 8, none⟩ (.int .i64 0)).setCell ⟨gz, 9, none⟩ (.bool op))) := ((((((((((hHeld.setCell gz0.out (.int .u32 (id : Int))).setCell gz0.out (.int .u32 (ev : Int))).setCell gz0.out (.int .i64 mem)).setCell gz0.out (.int .i64 chunk)).setCell gz0.out (.int .i64 rows)).setCell gz0.out (.int .i64 log)).setCell gz0.out (.int .i64 0)).setCell gz0.out (.int .i64 (-1))).setCell gz0.out (.int .i64 0)).setCell gz0.out (.bool op))
        replace Px : Hid (Bx ((((((((((sy.setCell ⟨gz, 0, none⟩ (.int .u32 (id : Int))).setCell ⟨gz, 1, none⟩ (.int .u32 (ev : Int))).setCell ⟨gz, 2, none⟩ (.int .i64 mem)).setCell ⟨gz, 3, none⟩ (.int .i64 chunk)).setCell ⟨gz, 4, none⟩ (.int .i64 rows)).setCell ⟨gz, 5, none⟩ (.int .i64 log)).setCell ⟨gz, 6, none⟩ (.int .i64 0)).setCell ⟨gz, 7, none⟩ (.int .i64 (-1))).setCell ⟨gz, 8, none⟩ (.int .i64 0)).setCell ⟨gz, 9, none⟩ (.bool op)) gx [.int .u32 (id : Int), .int .u32 (ev : Int), .int .i64 mem, .int .i64 chunk, .int .i64 rows, .int .i64 log, .int .i64 0, .int .i64 (-1), .int .i64 0, .bool op]) := ((((((((((Px.out.other ⟨gz, 0, none⟩ nzx (.int .u32 (id : Int))).other ⟨gz, 1, none⟩ nzx (.int .u32 (ev : Int))).other ⟨gz, 2, none⟩ nzx (.int .i64 mem)).other ⟨gz, 3, none⟩ nzx (.int .i64 chunk)).other ⟨gz, 4, none⟩ nzx (.int .i64 rows)).other ⟨gz, 5, none⟩ nzx (.int .i64 log)).other ⟨gz, 6, none⟩ nzx (.int .i64 0)).other ⟨gz, 7, none⟩ nzx (.int .i64 (-1))).other ⟨gz, 8, none⟩ nzx (.int .i64 0)).other ⟨gz, 9, none⟩ nzx (.bool op))
        replace Py : Hid (Bx ((((((((((sy.setCell ⟨gz, 0, none⟩ (.int .u32 (id : Int))).setCell ⟨gz, 1, none⟩ (.int .u32 (ev : Int))).setCell ⟨gz, 2, none⟩ (.int .i64 mem)).setCell ⟨gz, 3, none⟩ (.int .i64 chunk)).setCell ⟨gz, 4, none⟩ (.int .i64 rows)).setCell ⟨gz, 5, none⟩ (.int .i64 log)).setCell ⟨gz, 6, none⟩ (.int .i64 0)).setCell ⟨gz, 7, none⟩ (.int .i64 (-1))).setCell ⟨gz, 8, none⟩ (.int .i64 0)).setCell ⟨gz, 9, none⟩ (.bool op)) gy [.int .u32 (id : Int), .int .u32 (ev : Int), .int .i64 mem, .int .i64 chunk, .int .i64 rows, .int .i64 log, .int .i64 0, .int .i64 (-1), .int .i64 0, .bool op]) := ((((((((((Py.out.other ⟨gz, 0, none⟩ nyz.symm (.int .u32 (id : Int))).other ⟨gz, 1, none⟩ nyz.symm (.int .u32 (ev : Int))).other ⟨gz, 2, none⟩ nyz.symm (.int .i64 mem)).other ⟨gz, 3, none⟩ nyz.symm (.int .i64 chunk)).other ⟨gz, 4, none⟩ nyz.symm (.int .i64 rows)).other ⟨gz, 5, none⟩ nyz.symm (.int .i64 log)).other ⟨gz, 6, none⟩ nyz.symm (.int .i64 0)).other ⟨gz, 7, none⟩ nyz.symm (.int .i64 (-1))).other ⟨gz, 8, none⟩ nyz.symm (.int .i64 0)).other ⟨gz, 9, none⟩ nyz.symm (.bool op))
        replace Pz : Hid (Bx ((((((((((sy.setCell ⟨gz, 0, none⟩ (.int .u32 (id : Int))).setCell ⟨gz, 1, none⟩ (.int .u32 (ev : Int))).setCell ⟨gz, 2, none⟩ (.int .i64 mem)).setCell ⟨gz, 3, none⟩ (.int .i64 chunk)).setCell ⟨gz, 4, none⟩ (.int .i64 rows)).setCell ⟨gz, 5, none⟩ (.int .i64 log)).setCell ⟨gz, 6, none⟩ (.int .i64 0)).setCell ⟨gz, 7, none⟩ (.int .i64 (-1))).setCell ⟨gz, 8, none⟩ (.int .i64 0)).setCell ⟨gz, 9, none⟩ (.bool op)) gz [.int .u32 (id : Int), .int .u32 (ev : Int), .int .i64 mem, .int .i64 chunk, .int .i64 rows, .int .i64 log, .int .i64 0, .int .i64 (-1), .int .i64 0, .bool op]) := ((((((((((Pz.out.set 0 (.int .u32 (id : Int))).set 1 (.int .u32 (ev : Int))).set 2 (.int .i64 mem)).set 3 (.int .i64 chunk)).set 4 (.int .i64 rows)).set 5 (.int .i64 log)).set 6 (.int .i64 0)).set 7 (.int .i64 (-1))).set 8 (.int .i64 0)).set 9 (.bool op))
        clear xc0 xf0 xc1 xf1 xc2 xf2 xc3 xf3 xc4 xf4 xc5 xf5 xc6 xf6 xc7 xf7 xc8 xf8 xc9 xf9 yc0 yf0 yc1 yf1 yc2 yf2 yc3 yf3 yc4 yf4 yc5 yf5 yc6 yf6 yc7 yf7 yc8 yf8 yc9 yf9 zc0 zf0 zc1 zf1 zc2 zf2 zc3 zf3 zc4 zf4 zc5 zf5 zc6 zf6 zc7 zf7 zc8 zf8 zc9 zf9 ltx lty ltz
        generalize ((((((((((sy.setCell ⟨gz, 0, none⟩ (.int .u32 (id : Int))).setCell ⟨gz, 1, none⟩ (.int .u32 (ev : Int))).setCell ⟨gz, 2, none⟩ (.int .i64 mem)).setCell ⟨gz, 3, none⟩ (.int .i64 chunk)).setCell ⟨gz, 4, none⟩ (.int .i64 rows)).setCell ⟨gz, 5, none⟩ (.int .i64 log)).setCell ⟨gz, 6, none⟩ (.int .i64 0)).setCell ⟨gz, 7, none⟩ (.int .i64 (-1))).setCell ⟨gz, 8, none⟩ (.int .i64 0)).setCell ⟨gz, 9, none⟩ (.bool op)) = sz at *
        obtain ⟨xc0, xc1, xc2, xc3, xc4, xc5, xc6, xc7, xc8, xc9⟩ := Px.out.ten
        obtain ⟨xf0, xf1, xf2, xf3, xf4, xf5, xf6, xf7, xf8, xf9⟩ := Px.out.froz10
        have ltx := Px.out.lt
        obtain ⟨yc0, yc1, yc2, yc3, yc4, yc5, yc6, yc7, yc8, yc9⟩ := Py.out.ten
        obtain ⟨yf0, yf1, yf2, yf3, yf4, yf5, yf6, yf7, yf8, yf9⟩ := Py.out.froz10
        have lty := Py.out.lt
        obtain ⟨zc0, zc1, zc2, zc3, zc4, zc5, zc6, zc7, zc8, zc9⟩ := Pz.out.ten
        obtain ⟨zf0, zf1, zf2, zf3, zf4, zf5, zf6, zf7, zf8, zf9⟩ := Pz.out.froz10
        have ltz := Pz.out.lt
        refine hKq.out _ _ (Jz.out) (fun hHeld => ?_)
        clear hKq Kq
        (try simp only [Act.put, List.setIfInBounds_toArray, List.set_cons_zero, List.set_cons_succ])
        refine PX.wpAnyY_done (by kernel_rfl) ?_ _
        refine NoPanic.normal ?_
        clear hHeld
        have nq1 : gx ≠ gy := by first | exact nxy | exact nyx.symm
        have nq2 : gx ≠ gz := by first | exact nxz | exact nzx.symm
        have nq3 : gy ≠ gz := by first | exact nyz | exact nzy.symm
        have nq4 := nq1.symm
        have nq5 := nq2.symm
        have nq6 := nq3.symm
        have ltW : w.heap.size < W3.heap.size := BX.out.lt
        have nw1 : gx ≠ w.heap.size := by have := gx0.out; omega
        have nw2 : gy ≠ w.heap.size := by have := gy0.out; omega
        have nw3 : gz ≠ w.heap.size := by have := gz0.out; omega
        have BW := Lib.hid (BX.out.here Jz.out)
        have QX : Hid (Bx ((((sz.setCell ⟨gx, 6, none⟩ (.int .i64 me2)).setCell ⟨gy, 7, none⟩ (.int .i64 lost2)).setCell ⟨gz, 7, none⟩ (.int .i64 0)).setCell ⟨gz, 8, none⟩ (.int .i64 done2)) gx [.int .u32 (id : Int), .int .u32 (ev : Int), .int .i64 mem, .int .i64 chunk, .int .i64 rows, .int .i64 log, .int .i64 me2, .int .i64 (-1), .int .i64 0, .bool op]) := (((Px.out.set 6 (.int .i64 me2)).other ⟨gy, 7, none⟩ nq4 _).other ⟨gz, 7, none⟩ nq5 _).other ⟨gz, 8, none⟩ nq5 _
        have QY : Hid (Bx ((((sz.setCell ⟨gx, 6, none⟩ (.int .i64 me2)).setCell ⟨gy, 7, none⟩ (.int .i64 lost2)).setCell ⟨gz, 7, none⟩ (.int .i64 0)).setCell ⟨gz, 8, none⟩ (.int .i64 done2)) gy [.int .u32 (id : Int), .int .u32 (ev : Int), .int .i64 mem, .int .i64 chunk, .int .i64 rows, .int .i64 log, .int .i64 0, .int .i64 lost2, .int .i64 0, .bool op]) := (((Py.out.other ⟨gx, 6, none⟩ nq1 _).set 7 (.int .i64 lost2)).other ⟨gz, 7, none⟩ nq6 _).other ⟨gz, 8, none⟩ nq6 _
        have QZ : Hid (Bx ((((sz.setCell ⟨gx, 6, none⟩ (.int .i64 me2)).setCell ⟨gy, 7, none⟩ (.int .i64 lost2)).setCell ⟨gz, 7, none⟩ (.int .i64 0)).setCell ⟨gz, 8, none⟩ (.int .i64 done2)) gz [.int .u32 (id : Int), .int .u32 (ev : Int), .int .i64 mem, .int .i64 chunk, .int .i64 rows, .int .i64 log, .int .i64 0, .int .i64 0, .int .i64 done2, .bool op]) := (((Pz.out.other ⟨gx, 6, none⟩ nq2 _).other ⟨gy, 7, none⟩ nq3 _).set 7 (.int .i64 0)).set 8 (.int .i64 done2)
        have QW : Hid (Bx ((((sz.setCell ⟨gx, 6, none⟩ (.int .i64 me2)).setCell ⟨gy, 7, none⟩ (.int .i64 lost2)).setCell ⟨gz, 7, none⟩ (.int .i64 0)).setCell ⟨gz, 8, none⟩ (.int .i64 done2)) w.heap.size [.int .u32 (id : Int), .int .u32 (ev : Int), .int .i64 mem, .int .i64 chunk, .int .i64 rows, .int .i64 log, .int .i64 0, .int .i64 (-1), .int .i64 0, .bool op]) := (((BW.out.other ⟨gx, 6, none⟩ nw1 _).other ⟨gy, 7, none⟩ nw2 _).other ⟨gz, 7, none⟩ nw3 _).other ⟨gz, 8, none⟩ nw3 _
        have J4 : Hid (Below W3.heap.size W3 ((((sz.setCell ⟨gx, 6, none⟩ (.int .i64 me2)).setCell ⟨gy, 7, none⟩ (.int .i64 lost2)).setCell ⟨gz, 7, none⟩ (.int .i64 0)).setCell ⟨gz, 8, none⟩ (.int .i64 done2))) := (((Jz.out.setCell gx0.out _).setCell gy0.out _).setCell gz0.out _).setCell gz0.out _
        go_wp2_with fail
        clear xc0 xf0 xc1 xf1 xc2 xf2 xc3 xf3 xc4 xf4 xc5 xf5 xc6 xf6 xc7 xf7 xc8 xf8 xc9 xf9 yc0 yf0 yc1 yf1 yc2 yf2 yc3 yf3 yc4 yf4 yc5 yf5 yc6 yf6 yc7 yf7 yc8 yf8 yc9 yf9 zc0 zf0 zc1 zf1 zc2 zf2 zc3 zf3 zc4 zf4 zc5 zf5 zc6 zf6 zc7 zf7 zc8 zf8 zc9 zf9 ltx lty ltz c0 c1 c2 c3 c4 c5 c6 c7 c8 c9 ltBX BX BW Px Py Pz
        have B4 := Lib.hid (B3.out.trans (J4.out.mono B3.out.size))
        clear J4 Jx Jy Jz B3 nq1 nq2 nq3 nq4 nq5 nq6 nw1 nw2 nw3 ltW
        generalize ((((sz.setCell ⟨gx, 6, none⟩ (.int .i64 me2)).setCell ⟨gy, 7, none⟩ (.int .i64 lost2)).setCell ⟨gz, 7, none⟩ (.int .i64 0)).setCell ⟨gz, 8, none⟩ (.int .i64 done2)) = w4 at *
        (with_reducible refine (KX.out _).mono ?_)
        rintro e w5 ⟨rfl, b5⟩
        replace QX := Lib.hid (QX.out.here b5)
        replace QY := Lib.hid (QY.out.here b5)
        replace QZ := Lib.hid (QZ.out.here b5)
        replace QW := Lib.hid (QW.out.here b5)
        have B5 := Lib.hid (thence B4.out b5 (Nat.le_refl _))
        clear b5 B4
        obtain ⟨x0, x1, x2, x3, x4, x5, x6, x7, x8, x9⟩ := QX.out.ten
        have ltQX := QX.out.lt
        obtain ⟨y0, y1, y2, y3, y4, y5, y6, y7, y8, y9⟩ := QY.out.ten
        have ltQY := QY.out.lt
        obtain ⟨z0, z1, z2, z3, z4, z5, z6, z7, z8, z9⟩ := QZ.out.ten
        have ltQZ := QZ.out.lt
        obtain ⟨c0, c1, c2, c3, c4, c5, c6, c7, c8, c9⟩ := QW.out.ten
        have ltQW := QW.out.lt
        go_wp2_with fail
        (with_reducible refine (KY.out _).mono ?_)
        rintro e w6 ⟨rfl, b6⟩
        clear x0 x1 x2 x3 x4 x5 x6 x7 x8 x9 y0 y1 y2 y3 y4 y5 y6 y7 y8 y9 z0 z1 z2 z3 z4 z5 z6 z7 z8 z9 c0 c1 c2 c3 c4 c5 c6 c7 c8 c9 ltQX ltQY ltQZ ltQW
        replace QX := Lib.hid (QX.out.here b6)
        replace QY := Lib.hid (QY.out.here b6)
        replace QZ := Lib.hid (QZ.out.here b6)
        replace QW := Lib.hid (QW.out.here b6)
        have B6 := Lib.hid (thence B5.out b6 (Nat.le_refl _))
        clear b6 B5
        obtain ⟨x0, x1, x2, x3, x4, x5, x6, x7, x8, x9⟩ := QX.out.ten
        have ltQX := QX.out.lt
        obtain ⟨y0, y1, y2, y3, y4, y5, y6, y7, y8, y9⟩ := QY.out.ten
        have ltQY := QY.out.lt
        obtain ⟨z0, z1, z2, z3, z4, z5, z6, z7, z8, z9⟩ := QZ.out.ten
        have ltQZ := QZ.out.lt
        obtain ⟨c0, c1, c2, c3, c4, c5, c6, c7, c8, c9⟩ := QW.out.ten
        have ltQW := QW.out.lt
        go_wp2_with fail
        (with_reducible refine (KZ.out _).mono ?_)
        rintro e w7 ⟨rfl, b7⟩
        clear x0 x1 x2 x3 x4 x5 x6 x7 x8 x9 y0 y1 y2 y3 y4 y5 y6 y7 y8 y9 z0 z1 z2 z3 z4 z5 z6 z7 z8 z9 c0 c1 c2 c3 c4 c5 c6 c7 c8 c9 ltQX ltQY ltQZ ltQW
        replace QX := Lib.hid (QX.out.here b7)
        replace QY := Lib.hid (QY.out.here b7)
        replace QZ := Lib.hid (QZ.out.here b7)
        replace QW := Lib.hid (QW.out.here b7)
        have B7 := Lib.hid (thence B6.out b7 (Nat.le_refl _))
        clear b7 B6
        obtain ⟨x0, x1, x2, x3, x4, x5, x6, x7, x8, x9⟩ := QX.out.ten
        have ltQX := QX.out.lt
        obtain ⟨y0, y1, y2, y3, y4, y5, y6, y7, y8, y9⟩ := QY.out.ten
        have ltQY := QY.out.lt
        obtain ⟨z0, z1, z2, z3, z4, z5, z6, z7, z8, z9⟩ := QZ.out.ten
        have ltQZ := QZ.out.lt
        obtain ⟨c0, c1, c2, c3, c4, c5, c6, c7, c8, c9⟩ := QW.out.ten
        have ltQW := QW.out.lt
        have ex := EX.out
        have ey := EY.out
        have ez := EZ.out
        have hw := HW.out
        go_wp2_with fail
        all_goals
          go_ret
          exact ⟨rfl, B7.out⟩
    · go_simp
      have hl : Below W3.heap.size W3 (W3.alloc (.cells #[.int .u32 0, .int .u32 0, .int .i64 0, .int .i64 0, .int .i64 0, .int .i64 0, .int .i64 0, .int .i64 0, .int .i64 0, .bool false] 28)) := (Below.refl _ _).alloc (Nat.le_refl _) _
      have Hz : Hid (Below W3.heap.size W3 (W3.alloc (.cells #[.int .u32 0, .int .u32 0, .int .i64 0, .int .i64 0, .int .i64 0, .int .i64 0, .int .i64 0, .int .i64 0, .int .i64 0, .bool false] 28)).drew) := (thence (Below.refl _ _) hl (Nat.le_refl _)).drew
      have Pz : Hid (Bx (W3.alloc (.cells #[.int .u32 0, .int .u32 0, .int .i64 0, .int .i64 0, .int .i64 0, .int .i64 0, .int .i64 0, .int .i64 0, .int .i64 0, .bool false] 28)).drew W3.heap.size [.int .u32 0, .int .u32 0, .int .i64 0, .int .i64 0, .int .i64 0, .int .i64 0, .int .i64 0, .int .i64 0, .int .i64 0, .bool false]) := Bx.new W3 [.int .u32 0, .int .u32 0, .int .i64 0, .int .i64 0, .int .i64 0, .int .i64 0, .int .i64 0, .int .i64 0, .int .i64 0, .bool false] 28
      have gz0 : Hid (W3.heap.size ≤ W3.heap.size) := Nat.le_refl _
      clear hl
      generalize (W3.alloc (.cells #[.int .u32 0, .int .u32 0, .int .i64 0, .int .i64 0, .int .i64 0, .int .i64 0, .int .i64 0, .int .i64 0, .int .i64 0, .bool false] 28)).drew = az at *
      obtain ⟨gz, hG⟩ : ∃ gb, W3.heap.size = gb := ⟨_, rfl⟩
      rw [hG] at Pz ⊢
      replace gz0 : Hid (W3.heap.size ≤ gz) := hG ▸ gz0.out
      clear hG
      have ltz := Pz.out.lt
      refine hKq.out _ _ (Hz.out) (fun hHeld => ?_)
      clear hKq Kq
      (try simp only [Act.put, List.setIfInBounds_toArray, List.set_cons_zero, List.set_cons_succ])
      refine PX.wpAnyY_two (i := 3) (j := 4) (o := ?_) (o' := ?_) (by kernel_rfl) ?_ ?_ (fun Kq hKq => ?_) (fun Kq hKq => ?_)
      rotate_left 2
      · simp only [List.getElem?_toArray, List.getElem?_cons_succ, List.getElem?_cons_zero]; rfl
      · simp only [List.getElem?_toArray, List.getElem?_cons_succ, List.getElem?_cons_zero]; rfl
      · go_simp
        have hl : Below az.heap.size az (az.alloc (.cells #[.int .u32 0, .int .u32 0, .int .i64 0, .int .i64 0, .int .i64 0, .int .i64 0, .int .i64 0, .int .i64 0, .int .i64 0, .bool false] 28)) := (Below.refl _ _).alloc (Nat.le_refl _) _
        have Hx : Hid (Below W3.heap.size W3 (az.alloc (.cells #[.int .u32 0, .int .u32 0, .int .i64 0, .int .i64 0, .int .i64 0, .int .i64 0, .int .i64 0, .int .i64 0, .int .i64 0, .bool false] 28))) := (thence hHeld hl (Nat.le_refl _))
        have Px : Hid (Bx (az.alloc (.cells #[.int .u32 0, .int .u32 0, .int .i64 0, .int .i64 0, .int .i64 0, .int .i64 0, .int .i64 0, .int .i64 0, .int .i64 0, .bool false] 28)) az.heap.size [.int .u32 0, .int .u32 0, .int .i64 0, .int .i64 0, .int .i64 0, .int .i64 0, .int .i64 0, .int .i64 0, .int .i64 0, .bool false]) := Bx.new az [.int .u32 0, .int .u32 0, .int .i64 0, .int .i64 0, .int .i64 0, .int .i64 0, .int .i64 0, .int .i64 0, .int .i64 0, .bool false] 28
        have gx0 : Hid (W3.heap.size ≤ az.heap.size) := hHeld.size
        replace Pz := Lib.hid (Pz.out.here hl)
        have nzx : gz ≠ az.heap.size := Nat.ne_of_lt ltz
        clear hl
        generalize (az.alloc (.cells #[.int .u32 0, .int .u32 0, .int .i64 0, .int .i64 0, .int .i64 0, .int .i64 0, .int .i64 0, .int .i64 0, .int .i64 0, .bool false] 28)) = ax at *
        obtain ⟨gx, hG⟩ : ∃ gb, az.heap.size = gb := ⟨_, rfl⟩
        rw [hG] at nzx
        rw [hG] at Px ⊢
        replace gx0 : Hid (W3.heap.size ≤ gx) := hG ▸ gx0.out
        clear hG
        clear ltz
        have ltz := Pz.out.lt
        have ltx := Px.out.lt
        refine hKq.out _ _ (Hx.out) (fun hHeld => ?_)
        clear hKq Kq
        (try simp only [Act.put, List.setIfInBounds_toArray, List.set_cons_zero, List.set_cons_succ])
        refine PX.wpAnyY_one (i := 4) (o := ?_) (by kernel_rfl) ?_ (fun Kq hKq => ?_)
        rotate_left
        · simp only [List.getElem?_toArray, List.getElem?_cons_succ, List.getElem?_cons_zero]; rfl
        go_simp
        have hl : Below ax.heap.size ax (ax.alloc (.cells #[.int .u32 0, .int .u32 0, .int .i64 0, .int .i64 0, .int .i64 0, .int .i64 0, .int .i64 0, .int .i64 0, .int .i64 0, .bool false] 28)) := (Below.refl _ _).alloc (Nat.le_refl _) _
        have Hy : Hid (Below W3.heap.size W3 (ax.alloc (.cells #[.int .u32 0, .int .u32 0, .int .i64 0, .int .i64 0, .int .i64 0, .int .i64 0, .int .i64 0, .int .i64 0, .int .i64 0, .bool false] 28))) := (thence hHeld hl (Nat.le_refl _))
        have Py : Hid (Bx (ax.alloc (.cells #[.int .u32 0, .int .u32 0, .int .i64 0, .int .i64 0, .int .i64 0, .int .i64 0, .int .i64 0, .int .i64 0, .int .i64 0, .bool false] 28)) ax.heap.size [.int .u32 0, .int .u32 0, .int .i64 0, .int .i64 0, .int .i64 0, .int .i64 0, .int .i64 0, .int .i64 0, .int .i64 0, .bool false]) := Bx.new ax [.int .u32 0, .int .u32 0, .int .i64 0, .int .i64 0, .int .i64 0, .int .i64 0, .int .i64 0, .int .i64 0, .int .i64 0, .bool false] 28
        have gy0 : Hid (W3.heap.size ≤ ax.heap.size) := hHeld.size
        replace Pz := Lib.hid (Pz.out.here hl)
        have nzy : gz ≠ ax.heap.size := Nat.ne_of_lt ltz
        replace Px := Lib.hid (Px.out.here hl)
        have nxy : gx ≠ ax.heap.size := Nat.ne_of_lt ltx
        clear hl
        generalize (ax.alloc (.cells #[.int .u32 0, .int .u32 0, .int .i64 0, .int .i64 0, .int .i64 0, .int .i64 0, .int .i64 0, .int .i64 0, .int .i64 0, .bool false] 28)) = ay at *
        obtain ⟨gy, hG⟩ : ∃ gb, ax.heap.size = gb := ⟨_, rfl⟩
        rw [hG] at nzy
        rw [hG] at nxy
        rw [hG] at Py ⊢
        replace gy0 : Hid (W3.heap.size ≤ gy) := hG ▸ gy0.out
        clear hG
        clear ltz
        clear ltx
        have ltz := Pz.out.lt
        have ltx := Px.out.lt
        have lty := Py.out.lt
        obtain ⟨xc0, xc1, xc2, xc3, xc4, xc5, xc6, xc7, xc8, xc9⟩ := Px.out.ten
        obtain ⟨xf0, xf1, xf2, xf3, xf4, xf5, xf6, xf7, xf8, xf9⟩ := Px.out.froz10
        obtain ⟨yc0, yc1, yc2, yc3, yc4, yc5, yc6, yc7, yc8, yc9⟩ := Py.out.ten
        obtain ⟨yf0, yf1, yf2, yf3, yf4, yf5, yf6, yf7, yf8, yf9⟩ := Py.out.froz10
        obtain ⟨zc0, zc1, zc2, zc3, zc4, zc5, zc6, zc7, zc8, zc9⟩ := Pz.out.ten
        obtain ⟨zf0, zf1, zf2, zf3, zf4, zf5, zf6, zf7, zf8, zf9⟩ := Pz.out.froz10
        refine hKq.out _ _ (Hy.out) (fun hHeld => ?_)
        clear hKq Kq
        (try simp only [Act.put, List.setIfInBounds_toArray, List.set_cons_zero, List.set_cons_succ])
        refine PX.wpAnyY_one (i := 6) (o := ?_) (by kernel_rfl) ?_ (fun Kq hKq => ?_)
        rotate_left
        · simp only [List.getElem?_toArray, List.getElem?_cons_succ, List.getElem?_cons_zero]; rfl
        go_simp
        have Jx : Hid (Below W3.heap.size W3 ((((((((((ay.setCell ⟨gx, 0, none⟩ (.int .u32 (id : Int))).setCell ⟨gx, 1, none⟩ (.int .u32 (ev : Int))).setCell ⟨gx, 2, none⟩ (.int .i64 mem)).setCell ⟨gx, 3, none⟩ (.int .i64 chunk)).setCell ⟨gx, 4, none⟩ (.int .i64 rows)).setCell ⟨gx, 5, none⟩ (.int .i64 log)).setCell ⟨gx, 6, none⟩ (.int .i64 0)).setCell ⟨gx, 7, none⟩ (.int .i64 (-1))).setCell ⟨gx, 8, none⟩ (.int .i64 0)).setCell ⟨gx, 9, none⟩ (.bool op))) := ((((((((((hHeld.setCell gx0.out (.int .u32 (id : Int))).setCell gx0.out (.int .u32 (ev : Int))).setCell gx0.out (.int .i64 mem)).setCell gx0.out (.int .i64 chunk)).setCell gx0.out (.int .i64 rows)).setCell gx0.out (.int .i64 log)).setCell gx0.out (.int .i64 0)).setCell gx0.out (.int .i64 (-1))).setCell gx0.out (.int .i64 0)).setCell gx0.out (.bool op))
        replace Py : Hid (Bx ((((((((((ay.setCell ⟨gx, 0, none⟩ (.int .u32 (id : Int))).setCell ⟨gx, 1, none⟩ (.int .u32 (ev : Int))).setCell ⟨gx, 2, none⟩ (.int .i64 mem)).setCell ⟨gx, 3, none⟩ (.int .i64 chunk)).setCell ⟨gx, 4, none⟩ (.int .i64 rows)).setCell ⟨gx, 5, none⟩ (.int .i64 log)).setCell ⟨gx, 6, none⟩ (.int .i64 0)).setCell ⟨gx, 7, none⟩ (.int .i64 (-1))).setCell ⟨gx, 8, none⟩ (.int .i64 0)).setCell ⟨gx, 9, none⟩ (.bool op)) gy [.int .u32 0, .int .u32 0, .int .i64 0, .int .i64 0, .int .i64 0, .int .i64 0, .int .i64 0, .int .i64 0, .int .i64 0, .bool false]) := ((((((((((Py.out.other ⟨gx, 0, none⟩ nxy (.int .u32 (id : Int))).other ⟨gx, 1, none⟩ nxy (.int .u32 (ev : Int))).other ⟨gx, 2, none⟩ nxy (.int .i64 mem)).other ⟨gx, 3, none⟩ nxy (.int .i64 chunk)).other ⟨gx, 4, none⟩ nxy (.int .i64 rows)).other ⟨gx, 5, none⟩ nxy (.int .i64 log)).other ⟨gx, 6, none⟩ nxy (.int .i64 0)).other ⟨gx, 7, none⟩ nxy (.int .i64 (-1))).other ⟨gx, 8, none⟩ nxy (.int .i64 0)).other ⟨gx, 9, none⟩ nxy (.bool op))
        replace Pz : Hid (Bx ((((((((((ay.setCell ⟨gx, 0, none⟩ (.int .u32 (id : Int))).setCell ⟨gx, 1, none⟩ (.int .u32 (ev : Int))).setCell ⟨gx, 2, none⟩ (.int .i64 mem)).setCell ⟨gx, 3, none⟩ (.int .i64 chunk)).setCell ⟨gx, 4, none⟩ (.int .i64 rows)).setCell ⟨gx, 5, none⟩ (.int .i64 log)).setCell ⟨gx, 6, none⟩ (.int .i64 0)).setCell ⟨gx, 7, none⟩ (.int .i64 (-1))).setCell ⟨gx, 8, none⟩ (.int .i64 0)).setCell ⟨gx, 9, none⟩ (.bool op)) gz [.int .u32 0, .int .u32 0, .int .i64 0, .int .i64 0, .int .i64 0, .int .i64 0, .int .i64 0, .int .i64 0, .int .i64 0, .bool false]) := ((((((((((Pz.out.other ⟨gx, 0, none⟩ nzx.symm (.int .u32 (id : Int))).other ⟨gx, 1, none⟩ nzx.symm (.int .u32 (ev : Int))).other ⟨gx, 2, none⟩ nzx.symm (.int .i64 mem)).other ⟨gx, 3, none⟩ nzx.symm (.int .i64 chunk)).other ⟨gx, 4, none⟩ nzx.symm (.int .i64 rows)).other ⟨gx, 5, none⟩ nzx.symm (.int .i64 log)).other ⟨gx, 6, none⟩ nzx.symm (.int .i64 0)).other ⟨gx, 7, none⟩ nzx.symm (.int .i64 (-1))).other ⟨gx, 8, none⟩ nzx.symm (.int .i64 0)).other ⟨gx, 9, none⟩ nzx.symm (.bool op))
        replace Px : Hid (Bx ((((((((((ay.setCell ⟨gx, 0, none⟩ (.int .u32 (id : Int))).setCell ⟨gx, 1, none⟩ (.int .u32 (ev : Int))).setCell ⟨gx, 2, none⟩ (.int .i64 mem)).setCell ⟨gx, 3, none⟩ (.int .i64 chunk)).setCell ⟨gx, 4, none⟩ (.int .i64 rows)).setCell ⟨gx, 5, none⟩ (.int .i64 log)).setCell ⟨gx, 6, none⟩ (.int .i64 0)).setCell ⟨gx, 7, none⟩ (.int .i64 (-1))).setCell ⟨gx, 8, none⟩ (.int .i64 0)).setCell ⟨gx, 9, none⟩ (.bool op)) gx [.int .u32 (id : Int), .int .u32 (ev : Int), .int .i64 mem, .int .i64 chunk, .int .i64 rows, .int .i64 log, .int .i64 0, .int .i64 (-1), .int .i64 0, .bool op]) := ((((((((((Px.out.set 0 (.int .u32 (id : Int))).set 1 (.int .u32 (ev : Int))).set 2 (.int .i64 mem)).set 3 (.int .i64 chunk)).set 4 (.int .i64 rows)).set 5 (.int .i64 log)).set 6 (.int .i64 0)).set 7 (.int .i64 (-1))).set 8 (.int .i64 0)).set 9 (.bool op))
        clear xc0 xf0 xc1 xf1 xc2 xf2 xc3 xf3 xc4 xf4 xc5 xf5 xc6 xf6 xc7 xf7 xc8 xf8 xc9 xf9 yc0 yf0 yc1 yf1 yc2 yf2 yc3 yf3 yc4 yf4 yc5 yf5 yc6 yf6 yc7 yf7 yc8 yf8 yc9 yf9 zc0 zf0 zc1 zf1 zc2 zf2 zc3 zf3 zc4 zf4 zc5 zf5 zc6 zf6 zc7 zf7 zc8 zf8 zc9 zf9 ltx lty ltz
        generalize ((((((((((ay.setCell ⟨gx, 0, none⟩ (.int .u32 (id : Int))).setCell ⟨gx, 1, none⟩ (.int .u32 (ev : Int))).setCell ⟨gx, 2, none⟩ (.int .i64 mem)).setCell ⟨gx, 3, none⟩ (.int .i64 chunk)).setCell ⟨gx, 4, none⟩ (.int .i64 rows)).setCell ⟨gx, 5, none⟩ (.int .i64 log)).setCell ⟨gx, 6, none⟩ (.int .i64 0)).setCell ⟨gx, 7, none⟩ (.int .i64 (-1))).setCell ⟨gx, 8, none⟩ (.int .i64 0)).setCell ⟨gx, 9, none⟩ (.bool op)) = sx at *
        obtain ⟨xc0, xc1, xc2, xc3, xc4, xc5, xc6, xc7, xc8, xc9⟩ := Px.out.ten
        obtain ⟨xf0, xf1, xf2, xf3, xf4, xf5, xf6, xf7, xf8, xf9⟩ := Px.out.froz10
        have ltx := Px.out.lt
        obtain ⟨yc0, yc1, yc2, yc3, yc4, yc5, yc6, yc7, yc8, yc9⟩ := Py.out.ten
        obtain ⟨yf0, yf1, yf2, yf3, yf4, yf5, yf6, yf7, yf8, yf9⟩ := Py.out.froz10
        have lty := Py.out.lt
        obtain ⟨zc0, zc1, zc2, zc3, zc4, zc5, zc6, zc7, zc8, zc9⟩ := Pz.out.ten
        obtain ⟨zf0, zf1, zf2, zf3, zf4, zf5, zf6, zf7, zf8, zf9⟩ := Pz.out.froz10
        have ltz := Pz.out.lt
        refine hKq.out _ _ (Jx.out) (fun hHeld => ?_)
        clear hKq Kq
        (try simp only [Act.put, List.setIfInBounds_toArray, List.set_cons_zero, List.set_cons_succ])
        refine PX.wpAnyY_one (i := 7) (o := ?_) (by kernel_rfl) ?_ (fun Kq hKq => ?_)
        rotate_left
        · simp only [List.getElem?_toArray, List.getElem?_cons_succ, List.getElem?_cons_zero]; rfl
        go_simp
        have Jy : Hid (Below W3.heap.size W3 ((((((((((sx.setCell ⟨gy, 0, none⟩ (.int .u32 (id : Int))).setCell ⟨gy, 1, none⟩ (.int .u32 (ev : Int))).setCell ⟨gy, 2, none⟩ (.int .i64 mem)).setCell ⟨gy, 3, none⟩ (.int .i64 chunk)).setCell ⟨gy, 4, none⟩ (.int .i64 rows)).setCell ⟨gy, 5, none⟩ (.int .i64 log)).setCell ⟨gy, 6, none⟩ (.int .i64 0)).setCell ⟨gy, 7, none⟩ (.int .i64 (-1))).setCell ⟨gy, 8, none⟩ (.int .i64 0)).setCell ⟨gy, 9, none⟩ (.bool op))) := ((((((((((hHeld.setCell gy0.out (.int .u32 (id : Int))).setCell gy0.out (.int .u32 (ev : Int))).setCell gy0.out (.int .i64 mem)).setCell gy0.out (.int .i64 chunk)).setCell gy0.out (.int .i64 rows)).setCell gy0.out (.int .i64 log)).setCell gy0.out (.int .i64 0)).setCell gy0.out (.int .i64 (-1))).setCell gy0.out (.int .i64 0)).setCell gy0.out (.bool op))
        replace Px : Hid (Bx ((((((((((sx.setCell ⟨gy, 0, none⟩ (.int .u32 (id : Int))).setCell ⟨gy, 1, none⟩ (.int .u32 (ev : Int))).setCell ⟨gy, 2, none⟩ (.int .i64 mem)).setCell ⟨gy, 3, none⟩ (.int .i64 chunk)).setCell ⟨gy, 4, none⟩ (.int .i64 rows)).setCell ⟨gy, 5, none⟩ (.int .i64 log)).setCell ⟨gy, 6, none⟩ (.int .i64 0)).setCell ⟨gy, 7, none⟩ (.int .i64 (-1))).setCell ⟨gy, 8, none⟩ (.int .i64 0)).setCell ⟨gy, 9, none⟩ (.bool op)) gx [.int .u32 (id : Int), .int .u32 (ev : Int), .int .i64 mem, .int .i64 chunk, .int .i64 rows, .int .i64 log, .int .i64 0, .int .i64 (-1), .int .i64 0, .bool op]) := ((((((((((Px.out.other ⟨gy, 0, none⟩ nxy.symm (.int .u32 (id : Int))).other ⟨gy, 1, none⟩ nxy.symm (.int .u32 (ev : Int))).other ⟨gy, 2, none⟩ nxy.symm (.int .i64 mem)).other ⟨gy, 3, none⟩ nxy.symm (.int .i64 chunk)).other ⟨gy, 4, none⟩ nxy.symm (.int .i64 rows)).other ⟨gy, 5, none⟩ nxy.symm (.int .i64 log)).other ⟨gy, 6, none⟩ nxy.symm (.int .i64 0)).other ⟨gy, 7, none⟩ nxy.symm (.int .i64 (-1))).other ⟨gy, 8, none⟩ nxy.symm (.int .i64 0)).other ⟨gy, 9, none⟩ nxy.symm (.bool op))
        replace Pz : Hid (Bx ((((((((((sx.setCell ⟨gy, 0, none⟩ (.int .u32 (id : Int))).setCell ⟨gy, 1, none⟩ (.int .u32 (ev : Int))).setCell ⟨gy, 2, none⟩ (.int .i64 mem)).setCell ⟨gy, 3, none⟩ (.int .i64 chunk)).setCell ⟨gy, 4, none⟩ (.int .i64 rows)).setCell ⟨gy, 5, none⟩ (.int .i64 log)).setCell ⟨gy, 6, none⟩ (.int .i64 0)).setCell ⟨gy, 7, none⟩ (.int .i64 (-1))).setCell ⟨gy, 8, none⟩ (.int .i64 0)).setCell ⟨gy, 9, none⟩ (.bool op)) gz [.int .u32 0, .int .u32 0, .int .i64 0, .int .i64 0, .int .i64 0, .int .i64 0, .int .i64 0, .int .i64 0, .int .i64 0, .bool false]) := ((((((((((Pz.out.other ⟨gy, 0, none⟩ nzy.symm (.int .u32 (id : Int))).other ⟨gy, 1, none⟩ nzy.symm (.int .u32 (ev : Int))).other ⟨gy, 2, none⟩ nzy.symm (.int .i64 mem)).other ⟨gy, 3, none⟩ nzy.symm (.int .i64 chunk)).other ⟨gy, 4, none⟩ nzy.symm (.int .i64 rows)).other ⟨gy, 5, none⟩ nzy.symm (.int .i64 log)).other ⟨gy, 6, none⟩ nzy.symm (.int .i64 0)).other ⟨gy, 7, none⟩ nzy.symm (.int .i64 (-1))).other ⟨gy, 8, none⟩ nzy.symm (.int .i64 0)).other ⟨gy, 9, none⟩ nzy.symm (.bool op))
        replace Py : Hid (Bx ((((((((((sx.setCell ⟨gy, 0, none⟩ (.int .u32 (id : Int))).setCell ⟨gy, 1, none⟩ (.int .u32 (ev : Int))).setCell ⟨gy, 2, none⟩ (.int .i64 mem)).setCell ⟨gy, 3, none⟩ (.int .i64 chunk)).setCell ⟨gy, 4, none⟩ (.int .i64 rows)).setCell ⟨gy, 5, none⟩ (.int .i64 log)).setCell ⟨gy, 6, none⟩ (.int .i64 0)).setCell ⟨gy, 7, none⟩ (.int .i64 (-1))).setCell ⟨gy, 8, none⟩ (.int .i64 0)).setCell ⟨gy, 9, none⟩ (.bool op)) gy [.int .u32 (id : Int), .int .u32 (ev : Int), .int .i64 mem, .int .i64 chunk, .int .i64 rows, .int .i64 log, .int .i64 0, .int .i64 (-1), .int .i64 0, .bool op]) := ((((((((((Py.out.set 0 (.int .u32 (id : Int))).set 1 (.int .u32 (ev : Int))).set 2 (.int .i64 mem)).set 3 (.int .i64 chunk)).set 4 (.int .i64 rows)).set 5 (.int .i64 log)).set 6 (.int .i64 0)).set 7 (.int .i64 (-1))).set 8 (.int .i64 0)).set 9 (.bool op))
        clear xc0 xf0 xc1 xf1 xc2 xf2 xc3 xf3 xc4 xf4 xc5 xf5 xc6 xf6 xc7 xf7 xc8 xf8 xc9 xf9 yc0 yf0 yc1 yf1 yc2 yf2 yc3 yf3 yc4 yf4 yc5 yf5 yc6 yf6 yc7 yf7 yc8 yf8 yc9 yf9 zc0 zf0 zc1 zf1 zc2 zf2 zc3 zf3 zc4 zf4 zc5 zf5 zc6 zf6 zc7 zf7 zc8 zf8 zc9 zf9 ltx lty ltz
        generalize ((((((((((sx.setCell ⟨gy, 0, none⟩ (.int .u32 (id : Int))).setCell ⟨gy, 1, none⟩ (.int .u32 (ev : Int))).setCell ⟨gy, 2, none⟩ (.int .i64 mem)).setCell ⟨gy, 3, none⟩ (.int .i64 chunk)).setCell ⟨gy, 4, none⟩ (.int .i64 rows)).setCell ⟨gy, 5, none⟩ (.int .i64 log)).setCell ⟨gy, 6, none⟩ (.int .i64 0)).setCell ⟨gy, 7, none⟩ (.int .i64 (-1))).setCell ⟨gy, 8, none⟩ (.int .i64 0)).setCell ⟨gy, 9, none⟩ (.bool op)) = sy at *
        obtain ⟨xc0, xc1, xc2, xc3, xc4, xc5, xc6, xc7, xc8, xc9⟩ := Px.out.ten
        obtain ⟨xf0, xf1, xf2, xf3, xf4, xf5, xf6, xf7, xf8, xf9⟩ := Px.out.froz10
        have ltx := Px.out.lt
        obtain ⟨yc0, yc1, yc2, yc3, yc4, yc5, yc6, yc7, yc8, yc9⟩ := Py.out.ten
        obtain ⟨yf0, yf1, yf2, yf3, yf4, yf5, yf6, yf7, yf8, yf9⟩ := Py.out.froz10
        have lty := Py.out.lt
        obtain ⟨zc0, zc1, zc2, zc3, zc4, zc5, zc6, zc7, zc8, zc9⟩ := Pz.out.ten
        obtain ⟨zf0, zf1, zf2, zf3, zf4, zf5, zf6, zf7, zf8, zf9⟩ := Pz.out.froz10
        have ltz := Pz.out.lt
        refine hKq.out _ _ (Jy.out) (fun hHeld => ?_)
        clear hKq Kq
        (try simp only [Act.put, List.setIfInBounds_toArray, List.set_cons_zero, List.set_cons_succ])
        refine PX.wpAnyY_one (i := 8) (o := ?_) (by kernel_rfl) ?_ (fun Kq hKq => ?_)
        rotate_left
        · simp only [List.getElem?_toArray, List.getElem?_cons_succ, List.getElem?_cons_zero]; rfl
        go_simp
        have Jz : Hid (Below W3.heap.size W3 ((((((((((sy.setCell ⟨gz, 0, none⟩ (.int .u32 (id : Int))).setCell ⟨gz, 1, none⟩ (.int .u32 (ev : Int))).setCell ⟨gz, 2, none⟩ (.int .i64 mem)).setCell ⟨gz, 3, none⟩ (.int .i64 chunk)).setCell ⟨gz, 4, none⟩ (.int .i64 rows)).setCell ⟨gz, 5, none⟩ (.int .i64 log)).setCell ⟨gz, 6, none⟩ (.int .i64 0)).setCell ⟨gz, 7, none⟩ (.int .i64 (-1))).setCell ⟨gz, 8, none⟩ (.int .i64 0)).setCell ⟨gz, 9, none⟩ (.bool op))) := ((((((((((hHeld.setCell gz0.out (.int .u32 (id : Int))).setCell gz0.out (.int .u32 (ev : Int))).setCell gz0.out (.int .i64 mem)).setCell gz0.out (.int .i64 chunk)).setCell gz0.out (.int .i64 rows)).setCell gz0.out (.int .i64 log)).setCell gz0.out (.int .i64 0)).setCell gz0.out (.int .i64 (-1))).setCell gz0.out (.int .i64 0)).setCell gz0.out (.bool op))
        replace Px : Hid (Bx ((((((((((sy.setCell ⟨gz, 0, none⟩ (.int .u32 (id : Int))).setCell ⟨gz, 1, none⟩ (.int .u32 (ev : Int))).setCell ⟨gz, 2, none⟩ (.int .i64 mem)).setCell ⟨gz, 3, none⟩ (.int .i64 chunk)).setCell ⟨gz, 4, none⟩ (.int .i64 rows)).setCell ⟨gz, 5, none⟩ (.int .i64 log)).setCell ⟨gz, 6, none⟩ (.int .i64 0)).setCell ⟨gz, 7, none⟩ (.int .i64 (-1))).setCell ⟨gz, 8, none⟩ (.int .i64 0)).setCell ⟨gz, 9, none⟩ (.bool op)) gx [.int .u32 (id : Int), .int .u32 (ev : Int), .int .i64 mem, .int .i64 chunk, .int .i64 rows, .int .i64 log, .int .i64 0, .int .i64 (-1), .int .i64 0, .bool op]) := ((((((((((Px.out.other ⟨gz, 0, none⟩ nzx (.int .u32 (id : Int))).other ⟨gz, 1, none⟩ nzx (.int .u32 (ev : Int))).other ⟨gz, 2, none⟩ nzx (.int .i64 mem)).other ⟨gz, 3, none⟩ nzx (.int .i64 chunk)).other ⟨gz, 4, none⟩ nzx (.int .i64 rows)).other ⟨gz, 5, none⟩ nzx (.int .i64 log)).other ⟨gz, 6, none⟩ nzx (.int .i64 0)).other ⟨gz, 7, none⟩ nzx (.int .i64 (-1))).other ⟨gz, 8, none⟩ nzx (.int .i64 0)).other ⟨gz, 9, none⟩ nzx (.bool op))
        replace Py : Hid (Bx ((((((((((sy.setCell ⟨gz, 0, none⟩ (.int .u32 (id : Int))).setCell ⟨gz, 1, none⟩ (.int .u32 (ev : Int))).setCell ⟨gz, 2, none⟩ (.int .i64 mem)).setCell ⟨gz, 3, none⟩ (.int .i64 chunk)).setCell ⟨gz, 4, none⟩ (.int .i64 rows)).setCell ⟨gz, 5, none⟩ (.int .i64 log)).setCell ⟨gz, 6, none⟩ (.int .i64 0)).setCell ⟨gz, 7, none⟩ (.int .i64 (-1))).setCell ⟨gz, 8, none⟩ (.int .i64 0)).setCell ⟨gz, 9, none⟩ (.bool op)) gy [.int .u32 (id : Int), .int .u32 (ev : Int), .int .i64 mem, .int .i64 chunk, .int .i64 rows, .int .i64 log, .int .i64 0, .int .i64 (-1), .int .i64 0, .bool op]) := ((((((((((Py.out.other ⟨gz, 0, none⟩ nzy (.int .u32 (id : Int))).other ⟨gz, 1, none⟩ nzy (.int .u32 (ev : Int))).other ⟨gz, 2, none⟩ nzy (.int .i64 mem)).other ⟨gz, 3, none⟩ nzy (.int .i64 chunk)).other ⟨gz, 4, none⟩ nzy (.int .i64 rows)).other ⟨gz, 5, none⟩ nzy (.int .i64 log)).other ⟨gz, 6, none⟩ nzy (.int .i64 0)).other ⟨gz, 7, none⟩ nzy (.int .i64 (-1))).other ⟨gz, 8, none⟩ nzy (.int .i64 0)).other ⟨gz, 9, none⟩ nzy (.bool op))
        replace Pz : Hid (Bx ((((((((((sy.setCell ⟨gz, 0, none⟩ (.int .u32 (id : Int))).setCell ⟨gz, 1, none⟩ (.int .u32 (ev : Int))).setCell ⟨gz, 2, none⟩ (.int .i64 mem)).setCell ⟨gz, 3, none⟩ (.int .i64 chunk)).setCell ⟨gz, 4, none⟩ (.int .i64 rows)).setCell ⟨gz, 5, none⟩ (.int .i64 log)).setCell ⟨gz, 6, none⟩ (.int .i64 0)).setCell ⟨gz, 7, none⟩ (.int .i64 (-1))).setCell ⟨gz, 8, none⟩ (.int .i64 0)).setCell ⟨gz, 9, none⟩ (.bool op)) gz [.int .u32 (id : Int), .int .u32 (ev : Int), .int .i64 mem, .int .i64 chunk, .int .i64 rows, .int .i64 log, .int .i64 0, .int .i64 (-1), .int .i64 0, .bool op]) := ((((((((((Pz.out.set 0 (.int .u32 (id : Int))).set 1 (.int .u32 (ev : Int))).set 2 (.int .i64 mem)).set 3 (.int .i64 chunk)).set 4 (.int .i64 rows)).set 5 (.int .i64 log)).set 6 (.int .i64 0)).set 7 (.int .i64 (-1))).set 8 (.int .i64 0)).set 9 (.bool op))
        clear xc0 xf0 xc1 xf1 xc2 xf2 xc3 xf3 xc4 xf4 xc5 xf5 xc6 xf6 xc7 xf7 xc8 xf8 xc9 xf9 yc0 yf0 yc1 yf1 yc2 yf2 yc3 yf3 yc4 yf4 yc5 yf5 yc6 yf6 yc7 yf7 yc8 yf8 yc9 yf9 zc0 zf0 zc1 zf1 zc2 zf2 zc3 zf3 zc4 zf4 zc5 zf5 zc6 zf6 zc7 zf7 zc8 zf8 zc9 zf9 ltx lty ltz
        generalize ((((((((((sy.setCell ⟨gz, 0, none⟩ (.int .u32 (id : Int))).setCell ⟨gz, 1, none⟩ (.int .u32 (ev : Int))).setCell ⟨gz, 2, none⟩ (.int .i64 mem)).setCell ⟨gz, 3, none⟩ (.int .i64 chunk)).setCell ⟨gz, 4, none⟩ (.int .i64 rows)).setCell ⟨gz, 5, none⟩ (.int .i64 log)).setCell ⟨gz, 6, none⟩ (.int .i64 0)).setCell ⟨gz, 7, none⟩ (.int .i64 (-1))).setCell ⟨gz, 8, none⟩ (.int .i64 0)).setCell ⟨gz, 9, none⟩ (.bool op)) = sz at *
        obtain ⟨xc0, xc1, xc2, xc3, xc4, xc5, xc6, xc7, xc8, xc9⟩ := Px.out.ten
        obtain ⟨xf0, xf1, xf2, xf3, xf4, xf5, xf6, xf7, xf8, xf9⟩ := Px.out.froz10
        have ltx := Px.out.lt
        obtain ⟨yc0, yc1, yc2, yc3, yc4, yc5, yc6, yc7, yc8, yc9⟩ := Py.out.ten
        obtain ⟨yf0, yf1, yf2, yf3, yf4, yf5, yf6, yf7, yf8, yf9⟩ := Py.out.froz10
        have lty := Py.out.lt
        obtain ⟨zc0, zc1, zc2, zc3, zc4, zc5, zc6, zc7, zc8, zc9⟩ := Pz.out.ten
        obtain ⟨zf0, zf1, zf2, zf3, zf4, zf5, zf6, zf7, zf8, zf9⟩ := Pz.out.froz10
        have ltz := Pz.out.lt
        refine hKq.out _ _ (Jz.out) (fun hHeld => ?_)
        clear hKq Kq
        (try simp only [Act.put, List.setIfInBounds_toArray, List.set_cons_zero, List.set_cons_succ])
        refine PX.wpAnyY_done (by kernel_rfl) ?_ _
        refine NoPanic.normal ?_
        clear hHeld
        have nq1 : gx ≠ gy := by first | exact nxy | exact nyx.symm
        have nq2 : gx ≠ gz := by first | exact nxz | exact nzx.symm
        have nq3 : gy ≠ gz := by first | exact nyz | exact nzy.symm
        have nq4 := nq1.symm
        have nq5 := nq2.symm
        have nq6 := nq3.symm
        have ltW : w.heap.size < W3.heap.size := BX.out.lt
        have nw1 : gx ≠ w.heap.size := by have := gx0.out; omega
        have nw2 : gy ≠ w.heap.size := by have := gy0.out; omega
        have nw3 : gz ≠ w.heap.size := by have := gz0.out; omega
        have BW := Lib.hid (BX.out.here Jz.out)
        have QX : Hid (Bx ((((sz.setCell ⟨gx, 6, none⟩ (.int .i64 me2)).setCell ⟨gy, 7, none⟩ (.int .i64 lost2)).setCell ⟨gz, 7, none⟩ (.int .i64 0)).setCell ⟨gz, 8, none⟩ (.int .i64 done2)) gx [.int .u32 (id : Int), .int .u32 (ev : Int), .int .i64 mem, .int .i64 chunk, .int .i64 rows, .int .i64 log, .int .i64 me2, .int .i64 (-1), .int .i64 0, .bool op]) := (((Px.out.set 6 (.int .i64 me2)).other ⟨gy, 7, none⟩ nq4 _).other ⟨gz, 7, none⟩ nq5 _).other ⟨gz, 8, none⟩ nq5 _
        have QY : Hid (Bx ((((sz.setCell ⟨gx, 6, none⟩ (.int .i64 me2)).setCell ⟨gy, 7, none⟩ (.int .i64 lost2)).setCell ⟨gz, 7, none⟩ (.int .i64 0)).setCell ⟨gz, 8, none⟩ (.int .i64 done2)) gy [.int .u32 (id : Int), .int .u32 (ev : Int), .int .i64 mem, .int .i64 chunk, .int .i64 rows, .int .i64 log, .int .i64 0, .int .i64 lost2, .int .i64 0, .bool op]) := (((Py.out.other ⟨gx, 6, none⟩ nq1 _).set 7 (.int .i64 lost2)).other ⟨gz, 7, none⟩ nq6 _).other ⟨gz, 8, none⟩ nq6 _
        have QZ : Hid (Bx ((((sz.setCell ⟨gx, 6, none⟩ (.int .i64 me2)).setCell ⟨gy, 7, none⟩ (.int .i64 lost2)).setCell ⟨gz, 7, none⟩ (.int .i64 0)).setCell ⟨gz, 8, none⟩ (.int .i64 done2)) gz [.int .u32 (id : Int), .int .u32 (ev : Int), .int .i64 mem, .int .i64 chunk, .int .i64 rows, .int .i64 log, .int .i64 0, .int .i64 0, .int .i64 done2, .bool op]) := (((Pz.out.other ⟨gx, 6, none⟩ nq2 _).other ⟨gy, 7, none⟩ nq3 _).set 7 (.int .i64 0)).set 8 (.int .i64 done2)
        have QW : Hid (Bx ((((sz.setCell ⟨gx, 6, none⟩ (.int .i64 me2)).setCell ⟨gy, 7, none⟩ (.int .i64 lost2)).setCell ⟨gz, 7, none⟩ (.int .i64 0)).setCell ⟨gz, 8, none⟩ (.int .i64 done2)) w.heap.size [.int .u32 (id : Int), .int .u32 (ev : Int), .int .i64 mem, .int .i64 chunk, .int .i64 rows, .int .i64 log, .int .i64 0, .int .i64 (-1), .int .i64 0, .bool op]) := (((BW.out.other ⟨gx, 6, none⟩ nw1 _).other ⟨gy, 7, none⟩ nw2 _).other ⟨gz, 7, none⟩ nw3 _).other ⟨gz, 8, none⟩ nw3 _
        have J4 : Hid (Below W3.heap.size W3 ((((sz.setCell ⟨gx, 6, none⟩ (.int .i64 me2)).setCell ⟨gy, 7, none⟩ (.int .i64 lost2)).setCell ⟨gz, 7, none⟩ (.int .i64 0)).setCell ⟨gz, 8, none⟩ (.int .i64 done2))) := (((Jz.out.setCell gx0.out _).setCell gy0.out _).setCell gz0.out _).setCell gz0.out _
        go_wp2_with fail
        clear xc0 xf0 xc1 xf1 xc2 xf2 xc3 xf3 xc4 xf4 xc5 xf5 xc6 xf6 xc7 xf7 xc8 xf8 xc9 xf9 yc0 yf0 yc1 yf1 yc2 yf2 yc3 yf3 yc4 yf4 yc5 yf5 yc6 yf6 yc7 yf7 yc8 yf8 yc9 yf9 zc0 zf0 zc1 zf1 zc2 zf2 zc3 zf3 zc4 zf4 zc5 zf5 zc6 zf6 zc7 zf7 zc8 zf8 zc9 zf9 ltx lty ltz c0 c1 c2 c3 c4 c5 c6 c7 c8 c9 ltBX BX BW Px Py Pz
        have B4 := Lib.hid (B3.out.trans (J4.out.mono B3.out.size))
        clear J4 Jx Jy Jz B3 nq1 nq2 nq3 nq4 nq5 nq6 nw1 nw2 nw3 ltW
        generalize ((((sz.setCell ⟨gx, 6, none⟩ (.int .i64 me2)).setCell ⟨gy, 7, none⟩ (.int .i64 lost2)).setCell ⟨gz, 7, none⟩ (.int .i64 0)).setCell ⟨gz, 8, none⟩ (.int .i64 done2)) = w4 at *
        (with_reducible refine (KX.out _).mono ?_)
        rintro e w5 ⟨rfl, b5⟩
        replace QX := Lib.hid (QX.out.here b5)
        replace QY := Lib.hid (QY.out.here b5)
        replace QZ := Lib.hid (QZ.out.here b5)
        replace QW := Lib.hid (QW.out.here b5)
        have B5 := Lib.hid (thence B4.out b5 (Nat.le_refl _))
        clear b5 B4
        obtain ⟨x0, x1, x2, x3, x4, x5, x6, x7, x8, x9⟩ := QX.out.ten
        have ltQX := QX.out.lt
        obtain ⟨y0, y1, y2, y3, y4, y5, y6, y7, y8, y9⟩ := QY.out.ten
        have ltQY := QY.out.lt
        obtain ⟨z0, z1, z2, z3, z4, z5, z6, z7, z8, z9⟩ := QZ.out.ten
        have ltQZ := QZ.out.lt
        obtain ⟨c0, c1, c2, c3, c4, c5, c6, c7, c8, c9⟩ := QW.out.ten
        have ltQW := QW.out.lt
        go_wp2_with fail
        (with_reducible refine (KY.out _).mono ?_)
        rintro e w6 ⟨rfl, b6⟩
        clear x0 x1 x2 x3 x4 x5 x6 x7 x8 x9 y0 y1 y2 y3 y4 y5 y6 y7 y8 y9 z0 z1 z2 z3 z4 z5 z6 z7 z8 z9 c0 c1 c2 c3 c4 c5 c6 c7 c8 c9 ltQX ltQY ltQZ ltQW
        replace QX := Lib.hid (QX.out.here b6)
        replace QY := Lib.hid (QY.out.here b6)
        replace QZ := Lib.hid (QZ.out.here b6)
        replace QW := Lib.hid (QW.out.here b6)
        have B6 := Lib.hid (thence B5.out b6 (Nat.le_refl _))
        clear b6 B5
        obtain ⟨x0, x1, x2, x3, x4, x5, x6, x7, x8, x9⟩ := QX.out.ten
        have ltQX := QX.out.lt
        obtain ⟨y0, y1, y2, y3, y4, y5, y6, y7, y8, y9⟩ := QY.out.ten
        have ltQY := QY.out.lt
        obtain ⟨z0, z1, z2, z3, z4, z5, z6, z7, z8, z9⟩ := QZ.out.ten
        have ltQZ := QZ.out.lt
        obtain ⟨c0, c1, c2, c3, c4, c5, c6, c7, c8, c9⟩ := QW.out.ten
        have ltQW := QW.out.lt
        go_wp2_with fail
        (with_reducible refine (KZ.out _).mono ?_)
        rintro e w7 ⟨rfl, b7⟩
        clear x0 x1 x2 x3 x4 x5 x6 x7 x8 x9 y0 y1 y2 y3 y4 y5 y6 y7 y8 y9 z0 z1 z2 z3 z4 z5 z6 z7 z8 z9 c0 c1 c2 c3 c4 c5 c6 c7 c8 c9 ltQX ltQY ltQZ ltQW
        replace QX := Lib.hid (QX.out.here b7)
        replace QY := Lib.hid (QY.out.here b7)
        replace QZ := Lib.hid (QZ.out.here b7)
        replace QW := Lib.hid (QW.out.here b7)
        have B7 := Lib.hid (thence B6.out b7 (Nat.le_refl _))
        clear b7 B6
        obtain ⟨x0, x1, x2, x3, x4, x5, x6, x7, x8, x9⟩ := QX.out.ten
        have ltQX := QX.out.lt
        obtain ⟨y0, y1, y2, y3, y4, y5, y6, y7, y8, y9⟩ := QY.out.ten
        have ltQY := QY.out.lt
        obtain ⟨z0, z1, z2, z3, z4, z5, z6, z7, z8, z9⟩ := QZ.out.ten
        have ltQZ := QZ.out.lt
        obtain ⟨c0, c1, c2, c3, c4, c5, c6, c7, c8, c9⟩ := QW.out.ten
        have ltQW := QW.out.lt
        have ex := EX.out
        have ey := EY.out
        have ez := EZ.out
        have hw := HW.out
        go_wp2_with fail
        all_goals
          go_ret
          exact ⟨rfl, B7.out⟩
      · go_simp
        have hl : Below az.heap.size az (az.alloc (.cells #[.int .u32 0, .int .u32 0, .int .i64 0, .int .i64 0, .int .i64 0, .int .i64 0, .int .i64 0, .int .i64 0, .int .i64 0, .bool false] 28)) := (Below.refl _ _).alloc (Nat.le_refl _) _
        have Hy : Hid (Below W3.heap.size W3 (az.alloc (.cells #[.int .u32 0, .int .u32 0, .int .i64 0, .int .i64 0, .int .i64 0, .int .i64 0, .int .i64 0, .int .i64 0, .int .i64 0, .bool false] 28))) := (thence hHeld hl (Nat.le_refl _))
        have Py : Hid (Bx (az.alloc (.cells #[.int .u32 0, .int .u32 0, .int .i64 0, .int .i64 0, .int .i64 0, .int .i64 0, .int .i64 0, .int .i64 0, .int .i64 0, .bool false] 28)) az.heap.size [.int .u32 0, .int .u32 0, .int .i64 0, .int .i64 0, .int .i64 0, .int .i64 0, .int .i64 0, .int .i64 0, .int .i64 0, .bool false]) := Bx.new az [.int .u32 0, .int .u32 0, .int .i64 0, .int .i64 0, .int .i64 0, .int .i64 0, .int .i64 0, .int .i64 0, .int .i64 0, .bool false] 28
        have gy0 : Hid (W3.heap.size ≤ az.heap.size) := hHeld.size
        replace Pz := Lib.hid (Pz.out.here hl)
        have nzy : gz ≠ az.heap.size := Nat.ne_of_lt ltz
        clear hl
        generalize (az.alloc (.cells #[.int .u32 0, .int .u32 0, .int .i64 0, .int .i64 0, .int .i64 0, .int .i64 0, .int .i64 0, .int .i64 0, .int .i64 0, .bool false] 28)) = ay at *
        obtain ⟨gy, hG⟩ : ∃ gb, az.heap.size = gb := ⟨_, rfl⟩
        rw [hG] at nzy
        rw [hG] at Py ⊢
        replace gy0 : Hid (W3.heap.size ≤ gy) := hG ▸ gy0.out
        clear hG
        clear ltz
        have ltz := Pz.out.lt
        have lty := Py.out.lt
        refine hKq.out _ _ (Hy.out) (fun hHeld => ?_)
        clear hKq Kq
        (try simp only [Act.put, List.setIfInBounds_toArray, List.set_cons_zero, List.set_cons_succ])
        refine PX.wpAnyY_one (i := 3) (o := ?_) (by kernel_rfl) ?_ (fun Kq hKq => ?_)
        rotate_left
        · simp only [List.getElem?_toArray, List.getElem?_cons_succ, List.getElem?_cons_zero]; rfl
        go_simp
        have hl : Below ay.heap.size ay (ay.alloc (.cells #[.int .u32 0, .int .u32 0, .int .i64 0, .int .i64 0, .int .i64 0, .int .i64 0, .int .i64 0, .int .i64 0, .int .i64 0, .bool false] 28)) := (Below.refl _ _).alloc (Nat.le_refl _) _
        have Hx : Hid (Below W3.heap.size W3 (ay.alloc (.cells #[.int .u32 0, .int .u32 0, .int .i64 0, .int .i64 0, .int .i64 0, .int .i64 0, .int .i64 0, .int .i64 0, .int .i64 0, .bool false] 28))) := (thence hHeld hl (Nat.le_refl _))
        have Px : Hid (Bx (ay.alloc (.cells #[.int .u32 0, .int .u32 0, .int .i64 0, .int .i64 0, .int .i64 0, .int .i64 0, .int .i64 0, .int .i64 0, .int .i64 0, .bool false] 28)) ay.heap.size [.int .u32 0, .int .u32 0, .int .i64 0, .int .i64 0, .int .i64 0, .int .i64 0, .int .i64 0, .int .i64 0, .int .i64 0, .bool false]) := Bx.new ay [.int .u32 0, .int .u32 0, .int .i64 0, .int .i64 0, .int .i64 0, .int .i64 0, .int .i64 0, .int .i64 0, .int .i64 0, .bool false] 28
        have gx0 : Hid (W3.heap.size ≤ ay.heap.size) := hHeld.size
        replace Pz := Lib.hid (Pz.out.here hl)
        have nzx : gz ≠ ay.heap.size := Nat.ne_of_lt ltz
        replace Py := Lib.hid (Py.out.here hl)
        have nyx : gy ≠ ay.heap.size := Nat.ne_of_lt lty
        clear hl
        generalize (ay.alloc (.cells #[.int .u32 0, .int .u32 0, .int .i64 0, .int .i64 0, .int .i64 0, .int .i64 0, .int .i64 0, .int .i64 0, .int .i64 0, .bool false] 28)) = ax at *
        obtain ⟨gx, hG⟩ : ∃ gb, ay.heap.size = gb := ⟨_, rfl⟩
        rw [hG] at nzx
        rw [hG] at nyx
        rw [hG] at Px ⊢
        replace gx0 : Hid (W3.heap.size ≤ gx) := hG ▸ gx0.out
        clear hG
        clear ltz
        clear lty
        have ltz := Pz.out.lt
        have lty := Py.out.lt
        have ltx := Px.out.lt
        obtain ⟨xc0, xc1, xc2, xc3, xc4, xc5, xc6, xc7, xc8, xc9⟩ := Px.out.ten
        obtain ⟨xf0, xf1, xf2, xf3, xf4, xf5, xf6, xf7, xf8, xf9⟩ := Px.out.froz10
        obtain ⟨yc0, yc1, yc2, yc3, yc4, yc5, yc6, yc7, yc8, yc9⟩ := Py.out.ten
        obtain ⟨yf0, yf1, yf2, yf3, yf4, yf5, yf6, yf7, yf8, yf9⟩ := Py.out.froz10
        obtain ⟨zc0, zc1, zc2, zc3, zc4, zc5, zc6, zc7, zc8, zc9⟩ := Pz.out.ten
        obtain ⟨zf0, zf1, zf2, zf3, zf4, zf5, zf6, zf7, zf8, zf9⟩ := Pz.out.froz10
        refine hKq.out _ _ (Hx.out) (fun hHeld => ?_)
        clear hKq Kq
        (try simp only [Act.put, List.setIfInBounds_toArray, List.set_cons_zero, List.set_cons_succ])
        refine PX.wpAnyY_one (i := 6) (o := ?_) (by kernel_rfl) ?_ (fun Kq hKq => ?_)
        rotate_left
        · simp only [List.getElem?_toArray, List.getElem?_cons_succ, List.getElem?_cons_zero]; rfl
        go_simp
        have Jx : Hid (Below W3.heap.size W3 ((((((((((ax.setCell ⟨gx, 0, none⟩ (.int .u32 (id : Int))).setCell ⟨gx, 1, none⟩ (.int .u32 (ev : Int))).setCell ⟨gx, 2, none⟩ (.int .i64 mem)).setCell ⟨gx, 3, none⟩ (.int .i64 chunk)).setCell ⟨gx, 4, none⟩ (.int .i64 rows)).setCell ⟨gx, 5, none⟩ (.int .i64 log)).setCell ⟨gx, 6, none⟩ (.int .i64 0)).setCell ⟨gx, 7, none⟩ (.int .i64 (-1))).setCell ⟨gx, 8, none⟩ (.int .i64 0)).setCell ⟨gx, 9, none⟩ (.bool op))) := ((((((((((hHeld.setCell gx0.out (.int .u32 (id : Int))).setCell gx0.out (.int .u32 (ev : Int))).setCell gx0.out (.int .i64 mem)).setCell gx0.out (.int .i64 chunk)).setCell gx0.out (.int .i64 rows)).setCell gx0.out (.int .i64 log)).setCell gx0.out (.int .i64 0)).setCell gx0.out (.int .i64 (-1))).setCell gx0.out (.int .i64 0)).setCell gx0.out (.bool op))
        replace Py : Hid (Bx ((((((((((ax.setCell ⟨gx, 0, none⟩ (.int .u32 (id : Int))).setCell ⟨gx, 1, none⟩ (.int .u32 (ev : Int))).setCell ⟨gx, 2, none⟩ (.int .i64 mem)).setCell ⟨gx, 3, none⟩ (.int .i64 chunk)).setCell ⟨gx, 4, none⟩ (.int .i64 rows)).setCell ⟨gx, 5, none⟩ (.int .i64 log)).setCell ⟨gx, 6, none⟩ (.int .i64 0)).setCell ⟨gx, 7, none⟩ (.int .i64 (-1))).setCell ⟨gx, 8, none⟩ (.int .i64 0)).setCell ⟨gx, 9, none⟩ (.bool op)) gy [.int .u32 0, .int .u32 0, .int .i64 0, .int .i64 0, .int .i64 0, .int .i64 0, .int .i64 0, .int .i64 0, .int .i64 0, .bool false]) := ((((((((((Py.out.other ⟨gx, 0, none⟩ nyx.symm (.int .u32 (id : Int))).other ⟨gx, 1, none⟩ nyx.symm (.int .u32 (ev : Int))).other ⟨gx, 2, none⟩ nyx.symm (.int .i64 mem)).other ⟨gx, 3, none⟩ nyx.symm (.int .i64 chunk)).other ⟨gx, 4, none⟩ nyx.symm (.int .i64 rows)).other ⟨gx, 5, none⟩ nyx.symm (.int .i64 log)).other ⟨gx, 6, none⟩ nyx.symm (.int .i64 0)).other ⟨gx, 7, none⟩ nyx.symm (.int .i64 (-1))).other ⟨gx, 8, none⟩ nyx.symm (.int .i64 0)).other ⟨gx, 9, none⟩ nyx.symm (.bool op))
        replace Pz : Hid (Bx ((((((((((ax.setCell ⟨gx, 0, none⟩ (.int .u32 (id : Int))).setCell ⟨gx, 1, none⟩ (.int .u32 (ev : Int))).setCell ⟨gx, 2, none⟩ (.int .i64 mem)).setCell ⟨gx, 3, none⟩ (.int .i64 chunk)).setCell ⟨gx, 4, none⟩ (.int .i64 rows)).setCell ⟨gx, 5, none⟩ (.int .i64 log)).setCell ⟨gx, 6, none⟩ (.int .i64 0)).setCell ⟨gx, 7, none⟩ (.int .i64 (-1))).setCell ⟨gx, 8, none⟩ (.int .i64 0)).setCell ⟨gx, 9, none⟩ (.bool op)) gz [.int .u32 0, .int .u32 0, .int .i64 0, .int .i64 0, .int .i64 0, .int .i64 0, .int .i64 0, .int .i64 0, .int .i64 0, .bool false]) := ((((((((((Pz.out.other ⟨gx, 0, none⟩ nzx.symm (.int .u32 (id : Int))).other ⟨gx, 1, none⟩ nzx.symm (.int .u32 (ev : Int))).other ⟨gx, 2, none⟩ nzx.symm (.int .i64 mem)).other ⟨gx, 3, none⟩ nzx.symm (.int .i64 chunk)).other ⟨gx, 4, none⟩ nzx.symm (.int .i64 rows)).other ⟨gx, 5, none⟩ nzx.symm (.int .i64 log)).other ⟨gx, 6, none⟩ nzx.symm (.int .i64 0)).other ⟨gx, 7, none⟩ nzx.symm (.int .i64 (-1))).other ⟨gx, 8, none⟩ nzx.symm (.int .i64 0)).other ⟨gx, 9, none⟩ nzx.symm (.bool op))
        replace Px : Hid (Bx ((((((((((ax.setCell ⟨gx, 0, none⟩ (.int .u32 (id : Int))).setCell ⟨gx, 1, none⟩ (.int .u32 (ev : Int))).setCell ⟨gx, 2, none⟩ (.int .i64 mem)).setCell ⟨gx, 3, none⟩ (.int .i64 chunk)).setCell ⟨gx, 4, none⟩ (.int .i64 rows)).setCell ⟨gx, 5, none⟩ (.int .i64 log)).setCell ⟨gx, 6, none⟩ (.int .i64 0)).setCell ⟨gx, 7, none⟩ (.int .i64 (-1))).setCell ⟨gx, 8, none⟩ (.int .i64 0)).setCell ⟨gx, 9, none⟩ (.bool op)) gx [.int .u32 (id : Int), .int .u32 (ev : Int), .int .i64 mem, .int .i64 chunk, .int .i64 rows, .int .i64 log, .int .i64 0, .int .i64 (-1), .int .i64 0, .bool op]) := ((((((((((Px.out.set 0 (.int .u32 (id : Int))).set 1 (.int .u32 (ev : Int))).set 2 (.int .i64 mem)).set 3 (.int .i64 chunk)).set 4 (.int .i64 rows)).set 5 (.int .i64 log)).set 6 (.int .i64 0)).set 7 (.int .i64 (-1))).set 8 (.int .i64 0)).set 9 (.bool op))
        clear xc0 xf0 xc1 xf1 xc2 xf2 xc3 xf3 xc4 xf4 xc5 xf5 xc6 xf6 xc7 xf7 xc8 xf8 xc9 xf9 yc0 yf0 yc1 yf1 yc2 yf2 yc3 yf3 yc4 yf4 yc5 yf5 yc6 yf6 yc7 yf7 yc8 yf8 yc9 yf9 zc0 zf0 zc1 zf1 zc2 zf2 zc3 zf3 zc4 zf4 zc5 zf5 zc6 zf6 zc7 zf7 zc8 zf8 zc9 zf9 ltx lty ltz
        generalize ((((((((((ax.setCell ⟨gx, 0, none⟩ (.int .u32 (id : Int))).setCell ⟨gx, 1, none⟩ (.int .u32 (ev : Int))).setCell ⟨gx, 2, none⟩ (.int .i64 mem)).setCell ⟨gx, 3, none⟩ (.int .i64 chunk)).setCell ⟨gx, 4, none⟩ (.int .i64 rows)).setCell ⟨gx, 5, none⟩ (.int .i64 log)).setCell ⟨gx, 6, none⟩ (.int .i64 0)).setCell ⟨gx, 7, none⟩ (.int .i64 (-1))).setCell ⟨gx, 8, none⟩ (.int .i64 0)).setCell ⟨gx, 9, none⟩ (.bool op)) = sx at *
        obtain ⟨xc0, xc1, xc2, xc3, xc4, xc5, xc6, xc7, xc8, xc9⟩ := Px.out.ten
        obtain ⟨xf0, xf1, xf2, xf3, xf4, xf5, xf6, xf7, xf8, xf9⟩ := Px.out.froz10
        have ltx := Px.out.lt
        obtain ⟨yc0, yc1, yc2, yc3, yc4, yc5, yc6, yc7, yc8, yc9⟩ := Py.out.ten
        obtain ⟨yf0, yf1, yf2, yf3, yf4, yf5, yf6, yf7, yf8, yf9⟩ := Py.out.froz10
        have lty := Py.out.lt
        obtain ⟨zc0, zc1, zc2, zc3, zc4, zc5, zc6, zc7, zc8, zc9⟩ := Pz.out.ten
        obtain ⟨zf0, zf1, zf2, zf3, zf4, zf5, zf6, zf7, zf8, zf9⟩ := Pz.out.froz10
        have ltz := Pz.out.lt
        refine hKq.out _ _ (Jx.out) (fun hHeld => ?_)
        clear hKq Kq
        (try simp only [Act.put, List.setIfInBounds_toArray, List.set_cons_zero, List.set_cons_succ])
        refine PX.wpAnyY_one (i := 7) (o := ?_) (by kernel_rfl) ?_ (fun Kq hKq => ?_)
        rotate_left
        · simp only [List.getElem?_toArray, List.getElem?_cons_succ, List.getElem?_cons_zero]; rfl
        go_simp
        have Jy : Hid (Below W3.heap.size W3 ((((((((((sx.setCell ⟨gy, 0, none⟩ (.int .u32 (id : Int))).setCell ⟨gy, 1, none⟩ (.int .u32 (ev : Int))).setCell ⟨gy, 2, none⟩ (.int .i64 mem)).setCell ⟨gy, 3, none⟩ (.int .i64 chunk)).setCell ⟨gy, 4, none⟩ (.int .i64 rows)).setCell ⟨gy, 5, none⟩ (.int .i64 log)).setCell ⟨gy, 6, none⟩ (.int .i64 0)).setCell ⟨gy, 7, none⟩ (.int .i64 (-1))).setCell ⟨gy, 8, none⟩ (.int .i64 0)).setCell ⟨gy, 9, none⟩ (.bool op))) := ((((((((((hHeld.setCell gy0.out (.int .u32 (id : Int))).setCell gy0.out (.int .u32 (ev : Int))).setCell gy0.out (.int .i64 mem)).setCell gy0.out (.int .i64 chunk)).setCell gy0.out (.int .i64 rows)).setCell gy0.out (.int .i64 log)).setCell gy0.out (.int .i64 0)).setCell gy0.out (.int .i64 (-1))).setCell gy0.out (.int .i64 0)).setCell gy0.out (.bool op))
        replace Px : Hid (Bx ((((((((((sx.setCell ⟨gy, 0, none⟩ (.int .u32 (id : Int))).setCell ⟨gy, 1, none⟩ (.int .u32 (ev : Int))).setCell ⟨gy, 2, none⟩ (.int .i64 mem)).setCell ⟨gy, 3, none⟩ (.int .i64 chunk)).setCell ⟨gy, 4, none⟩ (.int .i64 rows)).setCell ⟨gy, 5, none⟩ (.int .i64 log)).setCell ⟨gy, 6, none⟩ (.int .i64 0)).setCell ⟨gy, 7, none⟩ (.int .i64 (-1))).setCell ⟨gy, 8, none⟩ (.int .i64 0)).setCell ⟨gy, 9, none⟩ (.bool op)) gx [.int .u32 (id : Int), .int .u32 (ev : Int), .int .i64 mem, .int .i64 chunk, .int .i64 rows, .int .i64 log, .int .i64 0, .int .i64 (-1), .int .i64 0, .bool op]) := ((((((((((Px.out.other ⟨gy, 0, none⟩ nyx (.int .u32 (id : Int))).other ⟨gy, 1, none⟩ nyx (.int .u32 (ev : Int))).other ⟨gy, 2, none⟩ nyx (.int .i64 mem)).other ⟨gy, 3, none⟩ nyx (.int .i64 chunk)).other ⟨gy, 4, none⟩ nyx (.int .i64 rows)).other ⟨gy, 5, none⟩ nyx (.int .i64 log)).other ⟨gy, 6, none⟩ nyx (.int .i64 0)).other ⟨gy, 7, none⟩ nyx (.int .i64 (-1))).other ⟨gy, 8, none⟩ nyx (.int .i64 0)).other ⟨gy, 9, none⟩ nyx (.bool op))
        replace Pz : Hid (Bx ((((((((((sx.setCell ⟨gy, 0, none⟩ (.int .u32 (id : Int))).setCell ⟨gy, 1, none⟩ (.int .u32 (ev : Int))).setCell ⟨gy, 2, none⟩ (.int .i64 mem)).setCell ⟨gy, 3, none⟩ (.int .i64 chunk)).setCell ⟨gy, 4, none⟩ (.int .i64 rows)).setCell ⟨gy, 5, none⟩ (.int .i64 log)).setCell ⟨gy, 6, none⟩ (.int .i64 0)).setCell ⟨gy, 7, none⟩ (.int .i64 (-1))).setCell ⟨gy, 8, none⟩ (.int .i64 0)).setCell ⟨gy, 9, none⟩ (.bool op)) gz [.int .u32 0, .int .u32 0, .int .i64 0, .int .i64 0, .int .i64 0, .int .i64 0, .int .i64 0, .int .i64 0, .int .i64 0, .bool false]) := ((((((((((Pz.out.other ⟨gy, 0, none⟩ nzy.symm (.int .u32 (id : Int))).other ⟨gy, 1, none⟩ nzy.symm (.int .u32 (ev : Int))).other ⟨gy, 2, none⟩ nzy.symm (.int .i64 mem)).other ⟨gy, 3, none⟩ nzy.symm (.int .i64 chunk)).other ⟨gy, 4, none⟩ nzy.symm (.int .i64 rows)).other ⟨gy, 5, none⟩ nzy.symm (.int .i64 log)).other ⟨gy, 6, none⟩ nzy.symm (.int .i64 0)).other ⟨gy, 7, none⟩ nzy.symm (.int .i64 (-1))).other ⟨gy, 8, none⟩ nzy.symm (.int .i64 0)).other ⟨gy, 9, none⟩ nzy.symm (.bool op))
        replace Py : Hid (Bx ((((((((((sx.setCell ⟨gy, 0, none⟩ (.int .u32 (id : Int))).setCell ⟨gy, 1, none⟩ (.int .u32 (ev : Int))).setCell ⟨gy, 2, none⟩ (.int .i64 mem)).setCell ⟨gy, 3, none⟩ (.int .i64 chunk)).setCell ⟨gy, 4, none⟩ (.int .i64 rows)).setCell ⟨gy, 5, none⟩ (.int .i64 log)).setCell ⟨gy, 6, none⟩ (.int .i64 0)).setCell ⟨gy, 7, none⟩ (.int .i64 (-1))).setCell ⟨gy, 8, none⟩ (.int .i64 0)).setCell ⟨gy, 9, none⟩ (.bool op)) gy [.int .u32 (id : Int), .int .u32 (ev : Int), .int .i64 mem, .int .i64 chunk, .int .i64 rows, .int .i64 log, .int .i64 0, .int .i64 (-1), .int .i64 0, .bool op]) := ((((((((((Py.out.set 0 (.int .u32 (id : Int))).set 1 (.int .u32 (ev : Int))).set 2 (.int .i64 mem)).set 3 (.int .i64 chunk)).set 4 (.int .i64 rows)).set 5 (.int .i64 log)).set 6 (.int .i64 0)).set 7 (.int .i64 (-1))).set 8 (.int .i64 0)).set 9 (.bool op))
        clear xc0 xf0 xc1 xf1 xc2 xf2 xc3 xf3 xc4 xf4 xc5 xf5 xc6 xf6 xc7 xf7 xc8 xf8 xc9 xf9 yc0 yf0 yc1 yf1 yc2 yf2 yc3 yf3 yc4 yf4 yc5 yf5 yc6 yf6 yc7 yf7 yc8 yf8 yc9 yf9 zc0 zf0 zc1 zf1 zc2 zf2 zc3 zf3 zc4 zf4 zc5 zf5 zc6 zf6 zc7 zf7 zc8 zf8 zc9 zf9 ltx lty ltz
        generalize ((((((((((sx.setCell ⟨gy, 0, none⟩ (.int .u32 (id : Int))).setCell ⟨gy, 1, none⟩ (.int .u32 (ev : Int))).setCell ⟨gy, 2, none⟩ (.int .i64 mem)).setCell ⟨gy, 3, none⟩ (.int .i64 chunk)).setCell ⟨gy, 4, none⟩ (.int .i64 rows)).setCell ⟨gy, 5, none⟩ (.int .i64 log)).setCell ⟨gy, 6, none⟩ (.int .i64 0)).setCell ⟨gy, 7, none⟩ (.int .i64 (-1))).setCell ⟨gy, 8, none⟩ (.int .i64 0)).setCell ⟨gy, 9, none⟩ (.bool op)) = sy at *
        obtain ⟨xc0, xc1, xc2, xc3, xc4, xc5, xc6, xc7, xc8, xc9⟩ := Px.out.ten
        obtain ⟨xf0, xf1, xf2, xf3, xf4, xf5, xf6, xf7, xf8, xf9⟩ := Px.out.froz10
        have ltx := Px.out.lt
        obtain ⟨yc0, yc1, yc2, yc3, yc4, yc5, yc6, yc7, yc8, yc9⟩ := Py.out.ten
        obtain ⟨yf0, yf1, yf2, yf3, yf4, yf5, yf6, yf7, yf8, yf9⟩ := Py.out.froz10
        have lty := Py.out.lt
        obtain ⟨zc0, zc1, zc2, zc3, zc4, zc5, zc6, zc7, zc8, zc9⟩ := Pz.out.ten
        obtain ⟨zf0, zf1, zf2, zf3, zf4, zf5, zf6, zf7, zf8, zf9⟩ := Pz.out.froz10
        have ltz := Pz.out.lt
        refine hKq.out _ _ (Jy.out) (fun hHeld => ?_)
        clear hKq Kq
        (try simp only [Act.put, List.setIfInBounds_toArray, List.set_cons_zero, List.set_cons_succ])
        refine PX.wpAnyY_one (i := 8) (o := ?_) (by kernel_rfl) ?_ (fun Kq hKq => ?_)
        rotate_left
        · simp only [List.getElem?_toArray, List.getElem?_cons_succ, List.getElem?_cons_zero]; rfl
        go_simp
        have Jz : Hid (Below W3.heap.size W3 ((((((((((sy.setCell ⟨gz, 0, none⟩ (.int .u32 (id : Int))).setCell ⟨gz, 1, none⟩ (.int .u32 (ev : Int))).setCell ⟨gz, 2, none⟩ (.int .i64 mem)).setCell ⟨gz, 3, none⟩ (.int .i64 chunk)).setCell ⟨gz, 4, none⟩ (.int .i64 rows)).setCell ⟨gz, 5, none⟩ (.int .i64 log)).setCell ⟨gz, 6, none⟩ (.int .i64 0)).setCell ⟨gz, 7, none⟩ (.int .i64 (-1))).setCell ⟨gz, 8, none⟩ (.int .i64 0)).setCell ⟨gz, 9, none⟩ (.bool op))) := ((((((((((hHeld.setCell gz0.out (.int .u32 (id : Int))).setCell gz0.out (.int .u32 (ev : Int))).setCell gz0.out (.int .i64 mem)).setCell gz0.out (.int .i64 chunk)).setCell gz0.out (.int .i64 rows)).setCell gz0.out (.int .i64 log)).setCell gz0.out (.int .i64 0)).setCell gz0.out (.int .i64 (-1))).setCell gz0.out (.int .i64 0)).setCell gz0.out (.bool op))
        replace Px : Hid (Bx ((((((((((sy.setCell ⟨gz, 0, none⟩ (.int .u32 (id : Int))).setCell ⟨gz, 1, none⟩ (.int .u32 (ev : Int))).setCell ⟨gz, 2, none⟩ (.int .i64 mem)).setCell ⟨gz, 3, none⟩ (.int .i64 chunk)).setCell ⟨gz, 4, none⟩ (.int .i64 rows)).setCell ⟨gz, 5, none⟩ (.int .i64 log)).setCell ⟨gz, 6, none⟩ (.int .i64 0)).setCell ⟨gz, 7, none⟩ (.int .i64 (-1))).setCell ⟨gz, 8, none⟩ (.int .i64 0)).setCell ⟨gz, 9, none⟩ (.bool op)) gx [.int .u32 (id : Int), .int .u32 (ev : Int), .int .i64 mem, .int .i64 chunk, .int .i64 rows, .int .i64 log, .int .i64 0, .int .i64 (-1), .int .i64 0, .bool op]) := ((((((((((Px.out.other ⟨gz, 0, none⟩ nzx (.int .u32 (id : Int))).other ⟨gz, 1, none⟩ nzx (.int .u32 (ev : Int))).other ⟨gz, 2, none⟩ nzx (.int .i64 mem)).other ⟨gz, 3, none⟩ nzx (.int .i64 chunk)).other ⟨gz, 4, none⟩ nzx (.int .i64 rows)).other ⟨gz, 5, none⟩ nzx (.int .i64 log)).other ⟨gz, 6, none⟩ nzx (.int .i64 0)).other ⟨gz, 7, none⟩ nzx (.int .i64 (-1))).other ⟨gz, 8, none⟩ nzx (.int .i64 0)).other ⟨gz, 9, none⟩ nzx (.bool op))
        replace Py : Hid (Bx ((((((((((sy.setCell ⟨gz, 0, none⟩ (.int .u32 (id : Int))).setCell ⟨gz, 1, none⟩ (.int .u32 (ev : Int))).setCell ⟨gz, 2, none⟩ (.int .i64 mem)).setCell ⟨gz, 3, none⟩ (.int .i64 chunk)).setCell ⟨gz, 4, none⟩ (.int .i64 rows)).setCell ⟨gz, 5, none⟩ (.int .i64 log)).setCell ⟨gz, 6, none⟩ (.int .i64 0)).setCell ⟨gz, 7, none⟩ (.int .i64 (-1))).setCell ⟨gz, 8, none⟩ (.int .i64 0)).setCell ⟨gz, 9, none⟩ (.bool op)) gy [.int .u32 (id : Int), .int .u32 (ev : Int), .int .i64 mem, .int .i64 chunk, .int .i64 rows, .int .i64 log, .int .i64 0, .int .i64 (-1), .int .i64 0, .bool op]) := ((((((((((Py.out.other ⟨gz, 0, none⟩ nzy (.int .u32 (id : Int))).other ⟨gz, 1, none⟩ nzy (.int .u32 (ev : Int))).other ⟨gz, 2, none⟩ nzy (.int .i64 mem)).other ⟨gz, 3, none⟩ nzy (.int .i64 chunk)).other ⟨gz, 4, none⟩ nzy (.int .i64 rows)).other ⟨gz, 5, none⟩ nzy (.int .i64 log)).other ⟨gz, 6, none⟩ nzy (.int .i64 0)).other ⟨gz, 7, none⟩ nzy (.int .i64 (-1))).other ⟨gz, 8, none⟩ nzy (.int .i64 0)).other ⟨gz, 9, none⟩ nzy (.bool op))
        replace Pz : Hid (Bx ((((((((((sy.setCell ⟨gz, 0, none⟩ (.int .u32 (id : Int))).setCell ⟨gz, 1, none⟩ (.int .u32 (ev : Int))).setCell ⟨gz, 2, none⟩ (.int .i64 mem)).setCell ⟨gz, 3, none⟩ (.int .i64 chunk)).setCell ⟨gz, 4, none⟩ (.int .i64 rows)).setCell ⟨gz, 5, none⟩ (.int .i64 log)).setCell ⟨gz, 6, none⟩ (.int .i64 0)).setCell ⟨gz, 7, none⟩ (.int .i64 (-1))).setCell ⟨gz, 8, none⟩ (.int .i64 0)).setCell ⟨gz, 9, none⟩ (.bool op)) gz [.int .u32 (id : Int), .int .u32 (ev : Int), .int .i64 mem, .int .i64 chunk, .int .i64 rows, .int .i64 log, .int .i64 0, .int .i64 (-1), .int .i64 0, .bool op]) := ((((((((((Pz.out.set 0 (.int .u32 (id : Int))).set 1 (.int .u32 (ev : Int))).set 2 (.int .i64 mem)).set 3 (.int .i64 chunk)).set 4 (.int .i64 rows)).set 5 (.int .i64 log)).set 6 (.int .i64 0)).set 7 (.int .i64 (-1))).set 8 (.int .i64 0)).set 9 (.bool op))
        clear xc0 xf0 xc1 xf1 xc2 xf2 xc3 xf3 xc4 xf4 xc5 xf5 xc6 xf6 xc7 xf7 xc8 xf8 xc9 xf9 yc0 yf0 yc1 yf1 yc2 yf2 yc3 yf3 yc4 yf4 yc5 yf5 yc6 yf6 yc7 yf7 yc8 yf8 yc9 yf9 zc0 zf0 zc1 zf1 zc2 zf2 zc3 zf3 zc4 zf4 zc5 zf5 zc6 zf6 zc7 zf7 zc8 zf8 zc9 zf9 ltx lty ltz
        generalize ((((((((((sy.setCell ⟨gz, 0, none⟩ (.int .u32 (id : Int))).setCell ⟨gz, 1, none⟩ (.int .u32 (ev : Int))).setCell ⟨gz, 2, none⟩ (.int .i64 mem)).setCell ⟨gz, 3, none⟩ (.int .i64 chunk)).setCell ⟨gz, 4, none⟩ (.int .i64 rows)).setCell ⟨gz, 5, none⟩ (.int .i64 log)).setCell ⟨gz, 6, none⟩ (.int .i64 0)).setCell ⟨gz, 7, none⟩ (.int .i64 (-1))).setCell ⟨gz, 8, none⟩ (.int .i64 0)).setCell ⟨gz, 9, none⟩ (.bool op)) = sz at *
        obtain ⟨xc0, xc1, xc2, xc3, xc4, xc5, xc6, xc7, xc8, xc9⟩ := Px.out.ten
        obtain ⟨xf0, xf1, xf2, xf3, xf4, xf5, xf6, xf7, xf8, xf9⟩ := Px.out.froz10
        have ltx := Px.out.lt
        obtain ⟨yc0, yc1, yc2, yc3, yc4, yc5, yc6, yc7, yc8, yc9⟩ := Py.out.ten
        obtain ⟨yf0, yf1, yf2, yf3, yf4, yf5, yf6, yf7, yf8, yf9⟩ := Py.out.froz10
        have lty := Py.out.lt
        obtain ⟨zc0, zc1, zc2, zc3, zc4, zc5, zc6, zc7, zc8, zc9⟩ := Pz.out.ten
        obtain ⟨zf0, zf1, zf2, zf3, zf4, zf5, zf6, zf7, zf8, zf9⟩ := Pz.out.froz10
        have ltz := Pz.out.lt
        refine hKq.out _ _ (Jz.out) (fun hHeld => ?_)
        clear hKq Kq
        (try simp only [Act.put, List.setIfInBounds_toArray, List.set_cons_zero, List.set_cons_succ])
        refine PX.wpAnyY_done (by kernel_rfl) ?_ _
        refine NoPanic.normal ?_
        clear hHeld
        have nq1 : gx ≠ gy := by first | exact nxy | exact nyx.symm
        have nq2 : gx ≠ gz := by first | exact nxz | exact nzx.symm
        have nq3 : gy ≠ gz := by first | exact nyz | exact nzy.symm
        have nq4 := nq1.symm
        have nq5 := nq2.symm
        have nq6 := nq3.symm
        have ltW : w.heap.size < W3.heap.size := BX.out.lt
        have nw1 : gx ≠ w.heap.size := by have := gx0.out; omega
        have nw2 : gy ≠ w.heap.size := by have := gy0.out; omega
        have nw3 : gz ≠ w.heap.size := by have := gz0.out; omega
        have BW := Lib.hid (BX.out.here Jz.out)
        have QX : Hid (Bx ((((sz.setCell ⟨gx, 6, none⟩ (.int .i64 me2)).setCell ⟨gy, 7, none⟩ (.int .i64 lost2)).setCell ⟨gz, 7, none⟩ (.int .i64 0)).setCell ⟨gz, 8, none⟩ (.int .i64 done2)) gx [.int .u32 (id : Int), .int .u32 (ev : Int), .int .i64 mem, .int .i64 chunk, .int .i64 rows, .int .i64 log, .int .i64 me2, .int .i64 (-1), .int .i64 0, .bool op]) := (((Px.out.set 6 (.int .i64 me2)).other ⟨gy, 7, none⟩ nq4 _).other ⟨gz, 7, none⟩ nq5 _).other ⟨gz, 8, none⟩ nq5 _
        have QY : Hid (Bx ((((sz.setCell ⟨gx, 6, none⟩ (.int .i64 me2)).setCell ⟨gy, 7, none⟩ (.int .i64 lost2)).setCell ⟨gz, 7, none⟩ (.int .i64 0)).setCell ⟨gz, 8, none⟩ (.int .i64 done2)) gy [.int .u32 (id : Int), .int .u32 (ev : Int), .int .i64 mem, .int .i64 chunk, .int .i64 rows, .int .i64 log, .int .i64 0, .int .i64 lost2, .int .i64 0, .bool op]) := (((Py.out.other ⟨gx, 6, none⟩ nq1 _).set 7 (.int .i64 lost2)).other ⟨gz, 7, none⟩ nq6 _).other ⟨gz, 8, none⟩ nq6 _
        have QZ : Hid (Bx ((((sz.setCell ⟨gx, 6, none⟩ (.int .i64 me2)).setCell ⟨gy, 7, none⟩ (.int .i64 lost2)).setCell ⟨gz, 7, none⟩ (.int .i64 0)).setCell ⟨gz, 8, none⟩ (.int .i64 done2)) gz [.int .u32 (id : Int), .int .u32 (ev : Int), .int .i64 mem, .int .i64 chunk, .int .i64 rows, .int .i64 log, .int .i64 0, .int .i64 0, .int .i64 done2, .bool op]) := (((Pz.out.other ⟨gx, 6, none⟩ nq2 _).other ⟨gy, 7, none⟩ nq3 _).set 7 (.int .i64 0)).set 8 (.int .i64 done2)
        have QW : Hid (Bx ((((sz.setCell ⟨gx, 6, none⟩ (.int .i64 me2)).setCell ⟨gy, 7, none⟩ (.int .i64 lost2)).setCell ⟨gz, 7, none⟩ (.int .i64 0)).setCell ⟨gz, 8, none⟩ (.int .i64 done2)) w.heap.size [.int .u32 (id : Int), .int .u32 (ev : Int), .int .i64 mem, .int .i64 chunk, .int .i64 rows, .int .i64 log, .int .i64 0, .int .i64 (-1), .int .i64 0, .bool op]) := (((BW.out.other ⟨gx, 6, none⟩ nw1 _).other ⟨gy, 7, none⟩ nw2 _).other ⟨gz, 7, none⟩ nw3 _).other ⟨gz, 8, none⟩ nw3 _
        have J4 : Hid (Below W3.heap.size W3 ((((sz.setCell ⟨gx, 6, none⟩ (.int .i64 me2)).setCell ⟨gy, 7, none⟩ (.int .i64 lost2)).setCell ⟨gz, 7, none⟩ (.int .i64 0)).setCell ⟨gz, 8, none⟩ (.int .i64 done2))) := (((Jz.out.setCell gx0.out _).setCell gy0.out _).setCell gz0.out _).setCell gz0.out _
        go_wp2_with fail
        clear xc0 xf0 xc1 xf1 xc2 xf2 xc3 xf3 xc4 xf4 xc5 xf5 xc6 xf6 xc7 xf7 xc8 xf8 xc9 xf9 yc0 yf0 yc1 yf1 yc2 yf2 yc3 yf3 yc4 yf4 yc5 yf5 yc6 yf6 yc7 yf7 yc8 yf8 yc9 yf9 zc0 zf0 zc1 zf1 zc2 zf2 zc3 zf3 zc4 zf4 zc5 zf5 zc6 zf6 zc7 zf7 zc8 zf8 zc9 zf9 ltx lty ltz c0 c1 c2 c3 c4 c5 c6 c7 c8 c9 ltBX BX BW Px Py Pz
        have B4 := Lib.hid (B3.out.trans (J4.out.mono B3.out.size))
        clear J4 Jx Jy Jz B3 nq1 nq2 nq3 nq4 nq5 nq6 nw1 nw2 nw3 ltW
        generalize ((((sz.setCell ⟨gx, 6, none⟩ (.int .i64 me2)).setCell ⟨gy, 7, none⟩ (.int .i64 lost2)).setCell ⟨gz, 7, none⟩ (.int .i64 0)).setCell ⟨gz, 8, none⟩ (.int .i64 done2)) = w4 at *
        (with_reducible refine (KX.out _).mono ?_)
        rintro e w5 ⟨rfl, b5⟩
        replace QX := Lib.hid (QX.out.here b5)
        replace QY := Lib.hid (QY.out.here b5)
        replace QZ := Lib.hid (QZ.out.here b5)
        replace QW := Lib.hid (QW.out.here b5)
        have B5 := Lib.hid (thence B4.out b5 (Nat.le_refl _))
        clear b5 B4
        obtain ⟨x0, x1, x2, x3, x4, x5, x6, x7, x8, x9⟩ := QX.out.ten
        have ltQX := QX.out.lt
        obtain ⟨y0, y1, y2, y3, y4, y5, y6, y7, y8, y9⟩ := QY.out.ten
        have ltQY := QY.out.lt
        obtain ⟨z0, z1, z2, z3, z4, z5, z6, z7, z8, z9⟩ := QZ.out.ten
        have ltQZ := QZ.out.lt
        obtain ⟨c0, c1, c2, c3, c4, c5, c6, c7, c8, c9⟩ := QW.out.ten
        have ltQW := QW.out.lt
        go_wp2_with fail
        (with_reducible refine (KY.out _).mono ?_)
        rintro e w6 ⟨rfl, b6⟩
        clear x0 x1 x2 x3 x4 x5 x6 x7 x8 x9 y0 y1 y2 y3 y4 y5 y6 y7 y8 y9 z0 z1 z2 z3 z4 z5 z6 z7 z8 z9 c0 c1 c2 c3 c4 c5 c6 c7 c8 c9 ltQX ltQY ltQZ ltQW
        replace QX := Lib.hid (QX.out.here b6)
        replace QY := Lib.hid (QY.out.here b6)
        replace QZ := Lib.hid (QZ.out.here b6)
        replace QW := Lib.hid (QW.out.here b6)
        have B6 := Lib.hid (thence B5.out b6 (Nat.le_refl _))
        clear b6 B5
        obtain ⟨x0, x1, x2, x3, x4, x5, x6, x7, x8, x9⟩ := QX.out.ten
        have ltQX := QX.out.lt
        obtain ⟨y0, y1, y2, y3, y4, y5, y6, y7, y8, y9⟩ := QY.out.ten
        have ltQY := QY.out.lt
        obtain ⟨z0, z1, z2, z3, z4, z5, z6, z7, z8, z9⟩ := QZ.out.ten
        have ltQZ := QZ.out.lt
        obtain ⟨c0, c1, c2, c3, c4, c5, c6, c7, c8, c9⟩ := QW.out.ten
        have ltQW := QW.out.lt
        go_wp2_with fail
        (with_reducible refine (KZ.out _).mono ?_)
        rintro e w7 ⟨rfl, b7⟩
        clear x0 x1 x2 x3 x4 x5 x6 x7 x8 x9 y0 y1 y2 y3 y4 y5 y6 y7 y8 y9 z0 z1 z2 z3 z4 z5 z6 z7 z8 z9 c0 c1 c2 c3 c4 c5 c6 c7 c8 c9 ltQX ltQY ltQZ ltQW
        replace QX := Lib.hid (QX.out.here b7)
        replace QY := Lib.hid (QY.out.here b7)
        replace QZ := Lib.hid (QZ.out.here b7)
        replace QW := Lib.hid (QW.out.here b7)
        have B7 := Lib.hid (thence B6.out b7 (Nat.le_refl _))
        clear b7 B6
        obtain ⟨x0, x1, x2, x3, x4, x5, x6, x7, x8, x9⟩ := QX.out.ten
        have ltQX := QX.out.lt
        obtain ⟨y0, y1, y2, y3, y4, y5, y6, y7, y8, y9⟩ := QY.out.ten
        have ltQY := QY.out.lt
        obtain ⟨z0, z1, z2, z3, z4, z5, z6, z7, z8, z9⟩ := QZ.out.ten
        have ltQZ := QZ.out.lt
        obtain ⟨c0, c1, c2, c3, c4, c5, c6, c7, c8, c9⟩ := QW.out.ten
        have ltQW := QW.out.lt
        have ex := EX.out
        have ey := EY.out
        have ez := EZ.out
        have hw := HW.out
        go_wp2_with fail
        all_goals
          go_ret
          exact ⟨rfl, B7.out⟩
end Go.Proofs.Ytleaphlignfkjaa.PW
