/-
  Layer 6: what the program's own calls answer.
-/
import Derived.Test.YtjdcnajppjamgaaShapeLaws
import Derived.Test.YtjdcnajppjamgaaShapeWithin
namespace Go.Proofs.Ytjdcnajppjamgaa.PW
open Go.RowKit
open SK (Cfg)
set_option linter.unusedVariables false
set_option linter.unusedSimpArgs false
set_option maxRecDepth 100000

/-- The five rows of a config. -/
def bounds (mem chunk rows log heads z : Int) : List Row3 := [(3, mem, 16), (1, chunk, 8), (1, rows, 8), (2, heads, 8), (z, log, 255)]
theorem bounds_all (id : Nat) (mem chunk rows log heads : Int) : (bounds mem chunk rows log heads (IntKind.i64.wrap (IntKind.i64.wrap (mem + 1) * IntKind.i64.wrap (heads + 1)))).all inR = Cfg.may ⟨id, mem, chunk, rows, log, heads⟩ := by
  rw [Bool.eq_iff_iff, SK.may_iff]
  simp only [bounds, List.all_cons, List.all_nil, Bool.and_true, Bool.and_eq_true, inR, SK.inB_iff, Cfg.mayP]
  by_cases h : (3 ≤ mem ∧ mem ≤ 16) ∧ (2 ≤ heads ∧ heads ≤ 8)
  · obtain ⟨⟨a, b⟩, c, d⟩ := h
    have hr := SK.room_bd ⟨a, b⟩ ⟨c, d⟩
    have s1 : IntKind.i64.wrap (heads + 1) = heads + 1 := IntWalk.i64_in _ (by omega)
    have s2 : IntKind.i64.wrap (mem + 1) = mem + 1 := IntWalk.i64_in _ (by omega)
    have s3 : IntKind.i64.wrap ((mem + 1) * (heads + 1)) = (mem + 1) * (heads + 1) := IntWalk.i64_in _ (by omega)
    rw [s1, s2, s3]
  · exact ⟨fun k => absurd ⟨k.1, k.2.2.2.1⟩ h, fun k => absurd ⟨k.1, k.2.2.2.1⟩ h⟩

theorem shNeed_any (id : Nat) (mem chunk rows log heads : Int) (w : World) :
    Calls Try.prog 66 #[.agg #[.int .u32 (id : Int), .int .i64 mem, .int .i64 chunk, .int .i64 rows, .int .i64 log, .int .i64 heads]] w fun e w' => e = .returned (.int .i64 (IntKind.i64.wrap (mem + 1))) ∧ Below w.heap.size w w' := by
  rw [IntWalk.i64_left]
  go_enter Try.func66, Try.ntmps66
  go_wp2
  go_ret
  exact ⟨rfl, (Below.refl _ _).alloc (Nat.le_refl _) _⟩
theorem shStripes_any (id : Nat) (mem chunk rows log heads : Int) (w : World) :
    Calls Try.prog 60 #[.agg #[.int .u32 (id : Int), .int .i64 mem, .int .i64 chunk, .int .i64 rows, .int .i64 log, .int .i64 heads]] w fun e w' => e = .returned (.int .i64 (IntKind.i64.wrap (chunk * rows))) ∧ Below w.heap.size w w' := by
  rw [IntWalk.i64_left]
  go_enter Try.func60, Try.ntmps60
  go_wp2
  go_ret
  exact ⟨rfl, (Below.refl _ _).alloc (Nat.le_refl _) _⟩

set_option maxHeartbeats 2000000 in
theorem shCheck_any (id : Nat) (mem chunk rows log heads : Int) (w : World) :
    Calls Try.prog 63 #[.agg #[.int .u32 (id : Int), .int .i64 mem, .int .i64 chunk, .int .i64 rows, .int .i64 log, .int .i64 heads]] w fun e w' => e = .returned (.int .i64 ((Cfg.code ⟨id, mem, chunk, rows, log, heads⟩ : Nat) : Int)) ∧ Below w.heap.size w w' := by
  have B0 : Hid (Below w.heap.size w (w.alloc (.cells #[.int .u32 (id : Int), .int .i64 mem, .int .i64 chunk, .int .i64 rows, .int .i64 log, .int .i64 heads] 86))) := (Below.refl _ _).alloc (Nat.le_refl _) _
  have BX := Lib.hid (Bx.new w [.int .u32 (id : Int), .int .i64 mem, .int .i64 chunk, .int .i64 rows, .int .i64 log, .int .i64 heads] 86)
  have CN : Hid (∀ w1, Calls Try.prog 66 #[.agg #[.int .u32 (id : Int), .int .i64 mem, .int .i64 chunk, .int .i64 rows, .int .i64 log, .int .i64 heads]] w1 fun e w' => e = .returned (.int .i64 (IntKind.i64.wrap (mem + 1))) ∧ Below w1.heap.size w1 w') := fun w1 => shNeed_any id mem chunk rows log heads w1
  have HB := Lib.hid (bounds_all id mem chunk rows log heads)
  have HQ : Hid (Cfg.code ⟨id, mem, chunk, rows, log, heads⟩ = if Cfg.may ⟨id, mem, chunk, rows, log, heads⟩ = true then 0 else 8) := rfl
  generalize Cfg.code ⟨id, mem, chunk, rows, log, heads⟩ = cd at *
  generalize Cfg.may ⟨id, mem, chunk, rows, log, heads⟩ = b at *
  go_enter Try.func63, Try.ntmps63
  go_wp2_with fail
  have BX : Hid (Bx (w.alloc (.cells #[.int .u32 (id : Int), .int .i64 mem, .int .i64 chunk, .int .i64 rows, .int .i64 log, .int .i64 heads] 86)) w.heap.size [.int .u32 (id : Int), .int .i64 mem, .int .i64 chunk, .int .i64 rows, .int .i64 log, .int .i64 heads]) := BX
  generalize w.alloc (.cells #[.int .u32 (id : Int), .int .i64 mem, .int .i64 chunk, .int .i64 rows, .int .i64 log, .int .i64 heads] 86) = W0 at *
  have hg := BX.out.lt
  obtain ⟨c0, c1, c2, c3, c4, c5⟩ := BX.out.six
  refine wp_region_noPanic ?_
  refine PX.wp_region_y (fun w' => Below W0.heap.size W0 w') [] (by kernel_rfl) (Below.refl _ _).drew (fun hHeld => ?_)
  refine PX.wpAnyY_take (i := 0) (oi := ?_) (v := ?_) ?_ (by kernel_rfl) (by kernel_rfl) (by kernel_rfl) (by kernel_rfl) (by kernel_rfl) (fun _ _ _ h => h) (Or.inl ⟨?_, ?_⟩) (by assumption) ?_
  rotate_left 2
  · simp only [List.getElem?_toArray, List.getElem?_cons_succ, List.getElem?_cons_zero]; rfl
  · rfl
  · intro w hSw; (try dsimp only at hSw); go_simp <;> with_reducible rfl
  (try simp only [Act.put, List.setIfInBounds_toArray, List.set_cons_zero, List.set_cons_succ])
  refine PX.wpAnyY_take (i := 1) (oi := ?_) (v := ?_) ?_ (by kernel_rfl) (by kernel_rfl) (by kernel_rfl) (by kernel_rfl) (by kernel_rfl) (fun _ _ _ h => h) (Or.inl ⟨?_, ?_⟩) (by assumption) ?_
  rotate_left 2
  · simp only [List.getElem?_toArray, List.getElem?_cons_succ, List.getElem?_cons_zero]; rfl
  · rfl
  · intro w hSw; (try dsimp only at hSw); have hC := fun (b o : Nat) (h : b < W0.heap.size) => Below.cell hSw (p := ⟨b, o, none⟩) h; go_simp <;> with_reducible rfl
  (try simp only [Act.put, List.setIfInBounds_toArray, List.set_cons_zero, List.set_cons_succ])
  refine PX.wpAnyY_take (i := 2) (oi := ?_) (v := ?_) ?_ (by kernel_rfl) (by kernel_rfl) (by kernel_rfl) (by kernel_rfl) (by kernel_rfl) (fun _ _ _ h => h) (Or.inl ⟨?_, ?_⟩) (by assumption) ?_
  rotate_left 2
  · simp only [List.getElem?_toArray, List.getElem?_cons_succ, List.getElem?_cons_zero]; rfl
  · rfl
  · intro w hSw; (try dsimp only at hSw); go_simp <;> with_reducible rfl
  (try simp only [Act.put, List.setIfInBounds_toArray, List.set_cons_zero, List.set_cons_succ])
  refine PX.wpAnyY_take (i := 3) (oi := ?_) (v := ?_) ?_ (by kernel_rfl) (by kernel_rfl) (by kernel_rfl) (by kernel_rfl) (by kernel_rfl) (fun _ _ _ h => h) (Or.inl ⟨?_, ?_⟩) (by assumption) ?_
  rotate_left 2
  · simp only [List.getElem?_toArray, List.getElem?_cons_succ, List.getElem?_cons_zero]; rfl
  · rfl
  · intro w hSw; (try dsimp only at hSw); go_simp <;> with_reducible rfl
  (try simp only [Act.put, List.setIfInBounds_toArray, List.set_cons_zero, List.set_cons_succ])
  refine PX.wpAnyY_take (i := 4) (oi := ?_) (v := ?_) ?_ (by kernel_rfl) (by kernel_rfl) (by kernel_rfl) (by kernel_rfl) (by kernel_rfl) (fun _ _ _ h => h) (Or.inl ⟨?_, ?_⟩) (by assumption) ?_
  rotate_left 2
  · simp only [List.getElem?_toArray, List.getElem?_cons_succ, List.getElem?_cons_zero]; rfl
  · rfl
  · intro w hSw; (try dsimp only at hSw); have hC := fun (b o : Nat) (h : b < W0.heap.size) => Below.cell hSw (p := ⟨b, o, none⟩) h; go_simp <;> with_reducible rfl
  (try simp only [Act.put, List.setIfInBounds_toArray, List.set_cons_zero, List.set_cons_succ])
  refine PX.wpAnyY_take (i := 5) (oi := ?_) (v := ?_) ?_ (by kernel_rfl) (by kernel_rfl) (by kernel_rfl) (by kernel_rfl) (by kernel_rfl) (fun _ _ _ h => h) (Or.inl ⟨?_, ?_⟩) (by assumption) ?_
  rotate_left 2
  · simp only [List.getElem?_toArray, List.getElem?_cons_succ, List.getElem?_cons_zero]; rfl
  · rfl
  · intro w hSw; (try dsimp only at hSw); go_simp <;> with_reducible rfl
  (try simp only [Act.put, List.setIfInBounds_toArray, List.set_cons_zero, List.set_cons_succ])
  refine PX.wpAnyY_take (i := 6) (oi := ?_) (v := ?_) ?_ (by kernel_rfl) (by kernel_rfl) (by kernel_rfl) (by kernel_rfl) (by kernel_rfl) (fun _ _ _ h => h) (Or.inl ⟨?_, ?_⟩) (by assumption) ?_
  rotate_left 2
  · simp only [List.getElem?_toArray, List.getElem?_cons_succ, List.getElem?_cons_zero]; rfl
  · rfl
  · intro w hSw; (try dsimp only at hSw); go_simp <;> with_reducible rfl
  (try simp only [Act.put, List.setIfInBounds_toArray, List.set_cons_zero, List.set_cons_succ])
  refine PX.wpAnyY_take (i := 7) (oi := ?_) (v := ?_) ?_ (by kernel_rfl) (by kernel_rfl) (by kernel_rfl) (by kernel_rfl) (by kernel_rfl) (fun _ _ _ h => h) (Or.inl ⟨?_, ?_⟩) (by assumption) ?_
  rotate_left 2
  · simp only [List.getElem?_toArray, List.getElem?_cons_succ, List.getElem?_cons_zero]; rfl
  · rfl
  · intro w hSw; (try dsimp only at hSw); have hC := fun (b o : Nat) (h : b < W0.heap.size) => Below.cell hSw (p := ⟨b, o, none⟩) h; go_simp <;> with_reducible rfl
  (try simp only [Act.put, List.setIfInBounds_toArray, List.set_cons_zero, List.set_cons_succ])
  refine PX.wpAnyY_take (i := 8) (oi := ?_) (v := ?_) ?_ (by kernel_rfl) (by kernel_rfl) (by kernel_rfl) (by kernel_rfl) (by kernel_rfl) (fun _ _ _ h => h) (Or.inl ⟨?_, ?_⟩) (by assumption) ?_
  rotate_left 2
  · simp only [List.getElem?_toArray, List.getElem?_cons_succ, List.getElem?_cons_zero]; rfl
  · rfl
  · intro w hSw; (try dsimp only at hSw); go_simp <;> with_reducible rfl
  (try simp only [Act.put, List.setIfInBounds_toArray, List.set_cons_zero, List.set_cons_succ])
  refine PX.wpAnyY_take (i := 9) (oi := ?_) (v := ?_) ?_ (by kernel_rfl) (by kernel_rfl) (by kernel_rfl) (by kernel_rfl) (by kernel_rfl) (fun _ _ _ h => h) (Or.inl ⟨?_, ?_⟩) (by assumption) ?_
  rotate_left 2
  · simp only [List.getElem?_toArray, List.getElem?_cons_succ, List.getElem?_cons_zero]; rfl
  · rfl
  · intro w hSw; (try dsimp only at hSw); go_simp <;> with_reducible rfl
  (try simp only [Act.put, List.setIfInBounds_toArray, List.set_cons_zero, List.set_cons_succ])
  refine PX.wpAnyY_take (i := 10) (oi := ?_) (v := ?_) ?_ (by kernel_rfl) (by kernel_rfl) (by kernel_rfl) (by kernel_rfl) (by kernel_rfl) (fun _ _ _ h => h) (Or.inl ⟨?_, ?_⟩) (by assumption) ?_
  rotate_left 2
  · simp only [List.getElem?_toArray, List.getElem?_cons_succ, List.getElem?_cons_zero]; rfl
  · rfl
  · intro w hSw; (try dsimp only at hSw); have hC := fun (b o : Nat) (h : b < W0.heap.size) => Below.cell hSw (p := ⟨b, o, none⟩) h; go_simp <;> with_reducible rfl
  (try simp only [Act.put, List.setIfInBounds_toArray, List.set_cons_zero, List.set_cons_succ])
  refine PX.wpAnyY_take (i := 11) (oi := ?_) (v := ?_) ?_ (by kernel_rfl) (by kernel_rfl) (by kernel_rfl) (by kernel_rfl) (by kernel_rfl) (fun _ _ _ h => h) (Or.inl ⟨?_, ?_⟩) (by assumption) ?_
  rotate_left 2
  · simp only [List.getElem?_toArray, List.getElem?_cons_succ, List.getElem?_cons_zero]; rfl
  · rfl
  · intro w hSw; (try dsimp only at hSw); go_simp <;> with_reducible rfl
  (try simp only [Act.put, List.setIfInBounds_toArray, List.set_cons_zero, List.set_cons_succ])
  refine PX.wpAnyY_take (i := 12) (oi := ?_) (v := ?_) ?_ (by kernel_rfl) (by kernel_rfl) (by kernel_rfl) (by kernel_rfl) (by kernel_rfl) (fun _ _ _ h => h) (Or.inl ⟨?_, ?_⟩) (by assumption) ?_
  rotate_left 2
  · simp only [List.getElem?_toArray, List.getElem?_cons_succ, List.getElem?_cons_zero]; rfl
  · rfl
  · intro w hSw; (try dsimp only at hSw); have hC := fun (b o : Nat) (h : b < W0.heap.size) => Below.cell hSw (p := ⟨b, o, none⟩) h; go_simp <;> with_reducible rfl
  (try simp only [Act.put, List.setIfInBounds_toArray, List.set_cons_zero, List.set_cons_succ])
  refine PX.wpAnyY_take (i := 14) (oi := ?_) (v := ?_) ?_ (by kernel_rfl) (by kernel_rfl) (by kernel_rfl) (by kernel_rfl) (by kernel_rfl) (fun _ _ _ h => h) (Or.inl ⟨?_, ?_⟩) (by assumption) ?_
  rotate_left 2
  · simp only [List.getElem?_toArray, List.getElem?_cons_succ, List.getElem?_cons_zero]; rfl
  · rfl
  · intro w hSw; (try dsimp only at hSw); go_simp <;> with_reducible rfl
  (try simp only [Act.put, List.setIfInBounds_toArray, List.set_cons_zero, List.set_cons_succ])
  refine PX.wpAnyY_take (i := 15) (oi := ?_) (v := ?_) ?_ (by kernel_rfl) (by kernel_rfl) (by kernel_rfl) (by kernel_rfl) (by kernel_rfl) (fun _ _ _ h => h) (Or.inl ⟨?_, ?_⟩) (by assumption) ?_
  rotate_left 2
  · simp only [List.getElem?_toArray, List.getElem?_cons_succ, List.getElem?_cons_zero]; rfl
  · rfl
  · intro w hSw; (try dsimp only at hSw); have hC := fun (b o : Nat) (h : b < W0.heap.size) => Below.cell hSw (p := ⟨b, o, none⟩) h; go_simp <;> with_reducible rfl
  (try simp only [Act.put, List.setIfInBounds_toArray, List.set_cons_zero, List.set_cons_succ])
  refine PX.wpAnyY_take (i := 16) (oi := ?_) (v := ?_) ?_ (by kernel_rfl) (by kernel_rfl) (by kernel_rfl) (by kernel_rfl) (by kernel_rfl) (fun _ _ _ h => h) (Or.inl ⟨?_, ?_⟩) (by assumption) ?_
  rotate_left 2
  · simp only [List.getElem?_toArray, List.getElem?_cons_succ, List.getElem?_cons_zero]; rfl
  · rfl
  · intro w hSw; (try dsimp only at hSw); go_simp <;> with_reducible rfl
  (try simp only [Act.put, List.setIfInBounds_toArray, List.set_cons_zero, List.set_cons_succ])
  refine PX.wpAnyY_take (i := 18) (oi := ?_) (v := ?_) ?_ (by kernel_rfl) (by kernel_rfl) (by kernel_rfl) (by kernel_rfl) (by kernel_rfl) (fun _ _ _ h => h) (Or.inl ⟨?_, ?_⟩) (by assumption) ?_
  rotate_left 2
  · simp only [List.getElem?_toArray, List.getElem?_cons_succ, List.getElem?_cons_zero]; rfl
  · rfl
  · intro w hSw; (try dsimp only at hSw); go_simp <;> with_reducible rfl
  (try simp only [Act.put, List.setIfInBounds_toArray, List.set_cons_zero, List.set_cons_succ])
  refine PX.wpAnyY_take (i := 19) (oi := ?_) (v := ?_) ?_ (by kernel_rfl) (by kernel_rfl) (by kernel_rfl) (by kernel_rfl) (by kernel_rfl) (fun _ _ _ h => h) (Or.inl ⟨?_, ?_⟩) (by assumption) ?_
  rotate_left 2
  · simp only [List.getElem?_toArray, List.getElem?_cons_succ, List.getElem?_cons_zero]; rfl
  · rfl
  · intro w hSw; (try dsimp only at hSw); have hC := fun (b o : Nat) (h : b < W0.heap.size) => Below.cell hSw (p := ⟨b, o, none⟩) h; go_simp <;> with_reducible rfl
  (try simp only [Act.put, List.setIfInBounds_toArray, List.set_cons_zero, List.set_cons_succ])
  refine PX.wpAnyY_one (i := 13) (o := ?_) (by kernel_rfl) ?_ (fun Kq hKq => ?_)
  rotate_left
  · simp only [List.getElem?_toArray, List.getElem?_cons_succ, List.getElem?_cons_zero]; rfl
  go_simp
  (with_reducible refine (CN.out _).mono ?_)
  rintro e w1 ⟨rfl, bqw1⟩
  have Hw1 := Lib.hid (thence hHeld bqw1 (Nat.le_refl _))
  clear bqw1
  go_wp2_with fail
  refine hKq.out _ _ (Hw1.out) (fun hHeld => ?_)
  clear hKq Kq
  (try simp only [Act.put, List.setIfInBounds_toArray, List.set_cons_zero, List.set_cons_succ])
  refine PX.wpAnyY_one (i := 17) (o := ?_) (by kernel_rfl) ?_ (fun Kq hKq => ?_)
  rotate_left
  · simp only [List.getElem?_toArray, List.getElem?_cons_succ, List.getElem?_cons_zero]; rfl
  go_simp
  refine hKq.out _ _ (hHeld) (fun hHeld => ?_)
  clear hKq Kq
  (try simp only [Act.put, List.setIfInBounds_toArray, List.set_cons_zero, List.set_cons_succ])
  refine PX.wpAnyY_one (i := 20) (o := ?_) (by kernel_rfl) ?_ (fun Kq hKq => ?_)
  rotate_left
  · simp only [List.getElem?_toArray, List.getElem?_cons_succ, List.getElem?_cons_zero]; rfl
  go_simp
  refine hKq.out _ _ (hHeld) (fun hHeld => ?_)
  clear hKq Kq
  (try simp only [Act.put, List.setIfInBounds_toArray, List.set_cons_zero, List.set_cons_succ])
  refine PX.wpAnyY_one (i := 21) (o := ?_) (by kernel_rfl) ?_ (fun Kq hKq => ?_)
  rotate_left
  · simp only [List.getElem?_toArray, List.getElem?_cons_succ, List.getElem?_cons_zero]; rfl
  go_simp
  refine hKq.out _ _ ((thence Hw1.out ((Below.refl _ _).alloc (Nat.le_refl _) _) (Nat.le_refl _))) (fun hHeld => ?_)
  clear hKq Kq
  (try simp only [Act.put, List.setIfInBounds_toArray, List.set_cons_zero, List.set_cons_succ])
  refine PX.wpAnyY_one (i := 22) (o := ?_) (by kernel_rfl) ?_ (fun Kq hKq => ?_)
  rotate_left
  · simp only [List.getElem?_toArray, List.getElem?_cons_succ, List.getElem?_cons_zero]; rfl
  go_simp
  have BY : Hid (Bx (w1.alloc (.cells #[.int .i64 3, .int .i64 mem, .int .i64 16, .int .i64 1, .int .i64 chunk, .int .i64 8, .int .i64 1, .int .i64 rows, .int .i64 8, .int .i64 2, .int .i64 heads, .int .i64 8, .int .i64 (IntKind.i64.wrap (IntKind.i64.wrap (mem + 1) * IntKind.i64.wrap (heads + 1))), .int .i64 log, .int .i64 255] 100)) w1.heap.size (rcells (bounds mem chunk rows log heads (IntKind.i64.wrap (IntKind.i64.wrap (mem + 1) * IntKind.i64.wrap (heads + 1)))))) := Bx.new w1 (rcells (bounds mem chunk rows log heads (IntKind.i64.wrap (IntKind.i64.wrap (mem + 1) * IntKind.i64.wrap (heads + 1))))) 100
  have CW := Lib.hid (within_any (bounds mem chunk rows log heads (IntKind.i64.wrap (IntKind.i64.wrap (mem + 1) * IntKind.i64.wrap (heads + 1)))) _ w1.heap.size 5 rfl (by omega) BY)
  rw [HB.out] at CW
  (with_reducible refine (CW.out).mono ?_)
  rintro e w2 ⟨rfl, bqw2⟩
  have Hw2 := Lib.hid (thence hHeld bqw2 (Nat.le_refl _))
  clear bqw2
  go_wp2_with fail
  refine hKq.out _ _ (Hw2.out) (fun hHeld => ?_)
  clear hKq Kq
  (try simp only [Act.put, List.setIfInBounds_toArray, List.set_cons_zero, List.set_cons_succ])
  refine PX.wpAnyY_one (i := 23) (o := ?_) (by kernel_rfl) ?_ (fun Kq hKq => ?_)
  rotate_left
  · simp only [List.getElem?_toArray, List.getElem?_cons_succ, List.getElem?_cons_zero]; rfl
  go_simp
  refine hKq.out _ _ (hHeld) (fun hHeld => ?_)
  clear hKq Kq
  (try simp only [Act.put, List.setIfInBounds_toArray, List.set_cons_zero, List.set_cons_succ])
  refine PX.wpAnyY_done (by kernel_rfl) ?_ _
  refine NoPanic.normal ?_
  have HE := Lib.hid (thence B0.out Hw2.out (Nat.le_refl _))
  clear hHeld
  cases b with
  | true =>
    have e : cd = 0 := HQ.out
    subst e
    go_wp2_with fail
    go_ret
    exact ⟨rfl, HE.out⟩
  | false =>
    have e : cd = 8 := HQ.out
    subst e
    go_wp2_with fail
    go_ret
    exact ⟨rfl, HE.out⟩

set_option maxHeartbeats 2000000 in
theorem shTold_any (id : Nat) (mem chunk rows log heads : Int) (n : Int) (w : World) :
    Calls Try.prog 59 #[.agg #[.int .u32 (id : Int), .int .i64 mem, .int .i64 chunk, .int .i64 rows, .int .i64 log, .int .i64 heads], .int .i64 n] w fun e w' => e = .returned (.tuple #[.int .i64 (if Cfg.may ⟨id, mem, chunk, rows, log, heads⟩ = true then n else 0), .int .i64 ((Cfg.code ⟨id, mem, chunk, rows, log, heads⟩ : Nat) : Int)]) ∧ Below w.heap.size w w' := by
  have B0 : Hid (Below w.heap.size w (w.alloc (.cells #[.int .u32 (id : Int), .int .i64 mem, .int .i64 chunk, .int .i64 rows, .int .i64 log, .int .i64 heads] 86))) := (Below.refl _ _).alloc (Nat.le_refl _) _
  have BX := Lib.hid (Bx.new w [.int .u32 (id : Int), .int .i64 mem, .int .i64 chunk, .int .i64 rows, .int .i64 log, .int .i64 heads] 86)
  have CC := Lib.hid (fun w1 => shCheck_any id mem chunk rows log heads w1)
  rcases Bool.eq_false_or_eq_true (Cfg.may ⟨id, mem, chunk, rows, log, heads⟩) with hm | hm
  · rw [SK.code_yes hm] at CC ⊢
    rw [hm, if_pos rfl]
    clear hm
    go_enter Try.func59, Try.ntmps59
    go_wp2_with fail
    (with_reducible refine (CC.out _).mono ?_)
    rintro e w1 ⟨rfl, b1⟩
    have B1 := Lib.hid (thence B0.out b1 (Nat.le_refl _))
    clear b1
    go_wp2_with fail
    go_ret2
    exact ⟨rfl, B1.out⟩
  · rw [SK.code_no hm] at CC ⊢
    rw [hm, if_neg (by simp)]
    clear hm
    go_enter Try.func59, Try.ntmps59
    go_wp2_with fail
    (with_reducible refine (CC.out _).mono ?_)
    rintro e w1 ⟨rfl, b1⟩
    have B1 := Lib.hid (thence B0.out b1 (Nat.le_refl _))
    clear b1
    go_wp2_with fail
    go_ret2
    exact ⟨rfl, B1.out⟩

set_option maxHeartbeats 2000000 in
theorem shStripes_is (id : Nat) (mem chunk rows log heads : Int) (w : World) :
    Calls Try.prog 51 #[.agg #[.int .u32 (id : Int), .int .i64 mem, .int .i64 chunk, .int .i64 rows, .int .i64 log, .int .i64 heads]] w fun e w' => e = .returned (.tuple #[.int .i64 (if Cfg.may ⟨id, mem, chunk, rows, log, heads⟩ = true then chunk * rows else 0), .int .i64 ((Cfg.code ⟨id, mem, chunk, rows, log, heads⟩ : Nat) : Int)]) ∧ Below w.heap.size w w' := by
  have X : (if Cfg.may ⟨id, mem, chunk, rows, log, heads⟩ = true then IntKind.i64.wrap (chunk * rows) else 0) = (if Cfg.may ⟨id, mem, chunk, rows, log, heads⟩ = true then chunk * rows else 0) := by
    by_cases h : Cfg.may ⟨id, mem, chunk, rows, log, heads⟩ = true
    · rw [if_pos h, if_pos h]
      have hm := SK.may_iff.1 h
      have hs := SK.stripes_bd hm
      have hb := SK.blocks_bd hm
      obtain ⟨⟨k0, k1⟩, ⟨k2, k3⟩, ⟨k4, k5⟩, ⟨k6, k7⟩, k8, k9⟩ := hm
      have hr := SK.room_bd ⟨k0, k1⟩ ⟨k6, k7⟩
      unfold Cfg.blocks at hb
      unfold Cfg.stripes at hs hb
      dsimp only at hs hb k0 k1 k2 k3 k4 k5 k6 k7 k8 k9 hr
      have s1 : IntKind.i64.wrap (mem + 1) = mem + 1 := IntWalk.i64_in _ (by omega)
      have s2 : IntKind.i64.wrap (mem - 1) = mem - 1 := IntWalk.i64_in _ (by omega)
      have s3 : IntKind.i64.wrap (chunk * rows) = chunk * rows := IntWalk.i64_in _ (by omega)
      have s4 : IntKind.i64.wrap (chunk * rows + 1) = chunk * rows + 1 := IntWalk.i64_in _ (by omega)
      have s5 : IntKind.i64.wrap (log + 1) = log + 1 := IntWalk.i64_in _ (by omega)
      have s6 : IntKind.i64.wrap ((mem - 1) * (chunk * rows)) = chunk * rows * (mem - 1) := by rw [Int.mul_comm (mem - 1)]; exact IntWalk.i64_in _ (by omega)
      simp only [s1, s2, s3, s4, s5, s6]
    · rw [if_neg h, if_neg h]
  have CT : Hid (∀ w1, Calls Try.prog 59 #[.agg #[.int .u32 (id : Int), .int .i64 mem, .int .i64 chunk, .int .i64 rows, .int .i64 log, .int .i64 heads], .int .i64 (IntKind.i64.wrap (chunk * rows))] w1 fun e w' => e = .returned (.tuple #[.int .i64 (if Cfg.may ⟨id, mem, chunk, rows, log, heads⟩ = true then chunk * rows else 0), .int .i64 ((Cfg.code ⟨id, mem, chunk, rows, log, heads⟩ : Nat) : Int)]) ∧ Below w1.heap.size w1 w') := fun w1 => by
    have := shTold_any id mem chunk rows log heads (IntKind.i64.wrap (chunk * rows)) w1
    rw [X] at this
    exact this
  clear X
  generalize (if Cfg.may ⟨id, mem, chunk, rows, log, heads⟩ = true then chunk * rows else 0) = r at *
  generalize ((Cfg.code ⟨id, mem, chunk, rows, log, heads⟩ : Nat) : Int) = cd at *
  have B0 : Hid (Below w.heap.size w (w.alloc (.cells #[.int .u32 (id : Int), .int .i64 mem, .int .i64 chunk, .int .i64 rows, .int .i64 log, .int .i64 heads] 86))) := (Below.refl _ _).alloc (Nat.le_refl _) _
  have BX := Lib.hid (Bx.new w [.int .u32 (id : Int), .int .i64 mem, .int .i64 chunk, .int .i64 rows, .int .i64 log, .int .i64 heads] 86)
  have CI : Hid (∀ w1, Calls Try.prog 60 #[.agg #[.int .u32 (id : Int), .int .i64 mem, .int .i64 chunk, .int .i64 rows, .int .i64 log, .int .i64 heads]] w1 fun e w' => e = .returned (.int .i64 (IntKind.i64.wrap (chunk * rows))) ∧ Below w1.heap.size w1 w') := fun w1 => shStripes_any id mem chunk rows log heads w1
  go_enter Try.func51, Try.ntmps51
  go_wp2_with fail
  have BX : Hid (Bx (w.alloc (.cells #[.int .u32 (id : Int), .int .i64 mem, .int .i64 chunk, .int .i64 rows, .int .i64 log, .int .i64 heads] 86)) w.heap.size [.int .u32 (id : Int), .int .i64 mem, .int .i64 chunk, .int .i64 rows, .int .i64 log, .int .i64 heads]) := BX
  generalize w.alloc (.cells #[.int .u32 (id : Int), .int .i64 mem, .int .i64 chunk, .int .i64 rows, .int .i64 log, .int .i64 heads] 86) = W0 at *
  have hg := BX.out.lt
  obtain ⟨c0, c1, c2, c3, c4, c5⟩ := BX.out.six
  refine wp_region_noPanic ?_
  refine PX.wp_region_y (fun w' => Below W0.heap.size W0 w') [] (by kernel_rfl) (Below.refl _ _).drew (fun hHeld => ?_)
  refine PX.wpAnyY_take (i := 0) (oi := ?_) (v := ?_) ?_ (by kernel_rfl) (by kernel_rfl) (by kernel_rfl) (by kernel_rfl) (by kernel_rfl) (fun _ _ _ h => h) (Or.inl ⟨?_, ?_⟩) (by assumption) ?_
  rotate_left 2
  · simp only [List.getElem?_toArray, List.getElem?_cons_succ, List.getElem?_cons_zero]; rfl
  · rfl
  · intro w hSw; (try dsimp only at hSw); have hC := fun (b o : Nat) (h : b < W0.heap.size) => Below.cell hSw (p := ⟨b, o, none⟩) h; go_simp <;> with_reducible rfl
  (try simp only [Act.put, List.setIfInBounds_toArray, List.set_cons_zero, List.set_cons_succ])
  refine PX.wpAnyY_take (i := 1) (oi := ?_) (v := ?_) ?_ (by kernel_rfl) (by kernel_rfl) (by kernel_rfl) (by kernel_rfl) (by kernel_rfl) (fun _ _ _ h => h) (Or.inl ⟨?_, ?_⟩) (by assumption) ?_
  rotate_left 2
  · simp only [List.getElem?_toArray, List.getElem?_cons_succ, List.getElem?_cons_zero]; rfl
  · rfl
  · intro w hSw; (try dsimp only at hSw); have hC := fun (b o : Nat) (h : b < W0.heap.size) => Below.cell hSw (p := ⟨b, o, none⟩) h; go_simp <;> with_reducible rfl
  (try simp only [Act.put, List.setIfInBounds_toArray, List.set_cons_zero, List.set_cons_succ])
  refine PX.wpAnyY_one (i := 2) (o := ?_) (by kernel_rfl) ?_ (fun Kq hKq => ?_)
  rotate_left
  · simp only [List.getElem?_toArray, List.getElem?_cons_succ, List.getElem?_cons_zero]; rfl
  go_simp
  (with_reducible refine (CI.out _).mono ?_)
  rintro e w1 ⟨rfl, bqw1⟩
  have Hw1 := Lib.hid (thence hHeld bqw1 (Nat.le_refl _))
  clear bqw1
  go_wp2_with fail
  refine hKq.out _ _ (Hw1.out) (fun hHeld => ?_)
  clear hKq Kq
  (try simp only [Act.put, List.setIfInBounds_toArray, List.set_cons_zero, List.set_cons_succ])
  refine PX.wpAnyY_one (i := 3) (o := ?_) (by kernel_rfl) ?_ (fun Kq hKq => ?_)
  rotate_left
  · simp only [List.getElem?_toArray, List.getElem?_cons_succ, List.getElem?_cons_zero]; rfl
  go_simp
  (with_reducible refine (CT.out _).mono ?_)
  rintro e w2 ⟨rfl, bqw2⟩
  have Hw2 := Lib.hid (thence hHeld bqw2 (Nat.le_refl _))
  clear bqw2
  go_wp2_with fail
  refine hKq.out _ _ (Hw2.out) (fun hHeld => ?_)
  clear hKq Kq
  (try simp only [Act.put, List.setIfInBounds_toArray, List.set_cons_zero, List.set_cons_succ])
  refine PX.wpAnyY_take (i := 4) (oi := ?_) (v := ?_) ?_ (by kernel_rfl) (by kernel_rfl) (by kernel_rfl) (by kernel_rfl) (by kernel_rfl) (fun _ _ _ h => h) (Or.inl ⟨?_, ?_⟩) (by assumption) ?_
  rotate_left 2
  · simp only [List.getElem?_toArray, List.getElem?_cons_succ, List.getElem?_cons_zero]; rfl
  · rfl
  · intro w hSw; (try dsimp only at hSw); go_simp <;> with_reducible rfl
  (try simp only [Act.put, List.setIfInBounds_toArray, List.set_cons_zero, List.set_cons_succ])
  refine PX.wpAnyY_one (i := 5) (o := ?_) (by kernel_rfl) ?_ (fun Kq hKq => ?_)
  rotate_left
  · simp only [List.getElem?_toArray, List.getElem?_cons_succ, List.getElem?_cons_zero]; rfl
  go_simp
  refine hKq.out _ _ (hHeld) (fun hHeld => ?_)
  clear hKq Kq
  (try simp only [Act.put, List.setIfInBounds_toArray, List.set_cons_zero, List.set_cons_succ])
  refine PX.wpAnyY_one (i := 6) (o := ?_) (by kernel_rfl) ?_ (fun Kq hKq => ?_)
  rotate_left
  · simp only [List.getElem?_toArray, List.getElem?_cons_succ, List.getElem?_cons_zero]; rfl
  go_simp
  refine hKq.out _ _ (hHeld) (fun hHeld => ?_)
  clear hKq Kq
  (try simp only [Act.put, List.setIfInBounds_toArray, List.set_cons_zero, List.set_cons_succ])
  refine PX.wpAnyY_one (i := 7) (o := ?_) (by kernel_rfl) ?_ (fun Kq hKq => ?_)
  rotate_left
  · simp only [List.getElem?_toArray, List.getElem?_cons_succ, List.getElem?_cons_zero]; rfl
  go_simp
  refine hKq.out _ _ (hHeld) (fun hHeld => ?_)
  clear hKq Kq
  (try simp only [Act.put, List.setIfInBounds_toArray, List.set_cons_zero, List.set_cons_succ])
  refine PX.wpAnyY_done (by kernel_rfl) ?_ _
  refine NoPanic.normal ?_
  have HE := Lib.hid Hw2.out
  clear hHeld
  go_wp2_with fail
  go_ret2
  exact ⟨rfl, thence B0.out HE.out (Nat.le_refl _)⟩

end Go.Proofs.Ytjdcnajppjamgaa.PW
