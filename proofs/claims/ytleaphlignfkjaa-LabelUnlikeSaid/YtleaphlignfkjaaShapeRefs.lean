/-
  Contracts of the document's own answers of layer 6.
-/
import Derived.Test.YtleaphlignfkjaaBase
import Derived.Test.YtleaphlignfkjaaHoist
import Derived.Test.YtleaphlignfkjaaShapeMath
namespace Go.Proofs.Ytleaphlignfkjaa.PW
open Go.RowKit
open SK (Cfg)
set_option linter.unusedVariables false
set_option linter.unusedSimpArgs false
set_option maxRecDepth 100000

/-- A struct of six fields: what its cells hold. -/
theorem Bx.six {w : World} {g : Nat} {x y z a b c : Value} (h : Bx w g [x, y, z, a, b, c]) : w.cell? ⟨g, 0, none⟩ = some x ∧ w.cell? ⟨g, 1, none⟩ = some y ∧ w.cell? ⟨g, 2, none⟩ = some z ∧ w.cell? ⟨g, 3, none⟩ = some a ∧ w.cell? ⟨g, 4, none⟩ = some b ∧ w.cell? ⟨g, 5, none⟩ = some c := ⟨h.cell 0, h.cell 1, h.cell 2, h.cell 3, h.cell 4, h.cell 5⟩

theorem refIn_any (n lo hi : Int) (w : World) :
    Calls Try.prog 58 #[.int .i64 n, .int .i64 lo, .int .i64 hi] w fun e w' => e = .returned (.bool (SK.inB n lo hi)) ∧ w = w' := by
  by_cases h1 : lo ≤ n
  · by_cases h2 : n ≤ hi
    · rw [SK.inB_iff.2 ⟨h1, h2⟩]
      go_enter Try.func58, Try.ntmps58
      go_wp2
      go_ret
      exact ⟨rfl, rfl⟩
    · rw [SK.inB_not.2 (fun h => h2 h.2)]
      go_enter Try.func58, Try.ntmps58
      go_wp2
      go_ret
      exact ⟨rfl, rfl⟩
  · rw [SK.inB_not.2 (fun h => h1 h.1)]
    go_enter Try.func58, Try.ntmps58
    go_wp2
    go_ret
    exact ⟨rfl, rfl⟩

theorem refNeed_any (id : Nat) (mem chunk rows log heads : Int) (w : World) (h0 : 3 ≤ mem) (h : mem ≤ 16) :
    Calls Try.prog 59 #[.agg #[.int .u32 (id : Int), .int .i64 mem, .int .i64 chunk, .int .i64 rows, .int .i64 log, .int .i64 heads]] w fun e w' => e = .returned (.int .i64 (mem + 1)) ∧ Below w.heap.size w w' := by
  go_enter Try.func59, Try.ntmps59
  go_wp2
  go_ret
  exact ⟨rfl, (Below.refl _ _).alloc (Nat.le_refl _) _⟩

set_option maxHeartbeats 1000000 in
theorem refMay_any (id : Nat) (mem chunk rows log heads : Int) (w : World) :
    Calls Try.prog 51 #[.agg #[.int .u32 (id : Int), .int .i64 mem, .int .i64 chunk, .int .i64 rows, .int .i64 log, .int .i64 heads]] w fun e w' => e = .returned (.bool (Cfg.may ⟨id, mem, chunk, rows, log, heads⟩)) ∧ Below w.heap.size w w' := by
  have CI : Hid (∀ n lo hi w1, Calls Try.prog 58 #[.int .i64 n, .int .i64 lo, .int .i64 hi] w1 fun e w' => e = .returned (.bool (SK.inB n lo hi)) ∧ w1 = w') := refIn_any
  have B0 : Hid (Below w.heap.size w (w.alloc (.cells #[.int .u32 (id : Int), .int .i64 mem, .int .i64 chunk, .int .i64 rows, .int .i64 log, .int .i64 heads] 62))) := (Below.refl _ _).alloc (Nat.le_refl _) _
  by_cases g0 : SK.inB mem 3 16 = true
  case neg =>
    have e0 : SK.inB mem 3 16 = false := by simpa using g0
    have hm : Cfg.may ⟨id, mem, chunk, rows, log, heads⟩ = false := SK.may_not.2 (fun h => g0 (SK.inB_iff.2 h.1))
    rw [hm]
    clear g0 hm
    go_enter Try.func51, Try.ntmps51
    go_wp2_with (refine (CI.out _ _ _ _).mono ?_; rintro e w1 ⟨rfl, rfl⟩)
    go_ret
    exact ⟨rfl, B0.out⟩
  by_cases g1 : SK.inB chunk 1 8 = true
  case neg =>
    have e1 : SK.inB chunk 1 8 = false := by simpa using g1
    have hm : Cfg.may ⟨id, mem, chunk, rows, log, heads⟩ = false := SK.may_not.2 (fun h => g1 (SK.inB_iff.2 h.2.1))
    rw [hm]
    clear g1 hm
    go_enter Try.func51, Try.ntmps51
    go_wp2_with (refine (CI.out _ _ _ _).mono ?_; rintro e w1 ⟨rfl, rfl⟩)
    go_ret
    exact ⟨rfl, B0.out⟩
  by_cases g2 : SK.inB rows 1 8 = true
  case neg =>
    have e2 : SK.inB rows 1 8 = false := by simpa using g2
    have hm : Cfg.may ⟨id, mem, chunk, rows, log, heads⟩ = false := SK.may_not.2 (fun h => g2 (SK.inB_iff.2 h.2.2.1))
    rw [hm]
    clear g2 hm
    go_enter Try.func51, Try.ntmps51
    go_wp2_with (refine (CI.out _ _ _ _).mono ?_; rintro e w1 ⟨rfl, rfl⟩)
    go_ret
    exact ⟨rfl, B0.out⟩
  by_cases g3 : SK.inB heads 2 8 = true
  case neg =>
    have e3 : SK.inB heads 2 8 = false := by simpa using g3
    have hm : Cfg.may ⟨id, mem, chunk, rows, log, heads⟩ = false := SK.may_not.2 (fun h => g3 (SK.inB_iff.2 h.2.2.2.1))
    rw [hm]
    clear g3 hm
    go_enter Try.func51, Try.ntmps51
    go_wp2_with (refine (CI.out _ _ _ _).mono ?_; rintro e w1 ⟨rfl, rfl⟩)
    go_ret
    exact ⟨rfl, B0.out⟩
  have p0 := SK.inB_iff.1 g0
  have p3 := SK.inB_iff.1 g3
  have hrb := SK.room_bd p0 p3
  have hm : Cfg.may ⟨id, mem, chunk, rows, log, heads⟩ = SK.inB log ((mem + 1) * (heads + 1)) 255 := by
    rw [Bool.eq_iff_iff, SK.may_iff, SK.inB_iff]
    exact ⟨fun h => h.2.2.2.2, fun h => ⟨p0, SK.inB_iff.1 g1, SK.inB_iff.1 g2, p3, h⟩⟩
  rw [hm]
  clear hm
  have CN : Hid (∀ w1, Calls Try.prog 59 #[.agg #[.int .u32 (id : Int), .int .i64 mem, .int .i64 chunk, .int .i64 rows, .int .i64 log, .int .i64 heads]] w1 fun e w' => e = .returned (.int .i64 (mem + 1)) ∧ Below w1.heap.size w1 w') := fun w1 => refNeed_any id mem chunk rows log heads w1 p0.1 p0.2
  have BX := Lib.hid (Bx.new w [.int .u32 (id : Int), .int .i64 mem, .int .i64 chunk, .int .i64 rows, .int .i64 log, .int .i64 heads] 62)
  obtain ⟨p1, p2⟩ := p0
  obtain ⟨p4, p5⟩ := p3
  obtain ⟨q1, q2⟩ := hrb
  go_enter Try.func51, Try.ntmps51
  go_wp2_with (refine (CI.out _ _ _ _).mono ?_; rintro e w1 ⟨rfl, rfl⟩)
  have BX : Hid (Bx (w.alloc (.cells #[.int .u32 (id : Int), .int .i64 mem, .int .i64 chunk, .int .i64 rows, .int .i64 log, .int .i64 heads] 62)) w.heap.size [.int .u32 (id : Int), .int .i64 mem, .int .i64 chunk, .int .i64 rows, .int .i64 log, .int .i64 heads]) := BX
  generalize w.alloc (.cells #[.int .u32 (id : Int), .int .i64 mem, .int .i64 chunk, .int .i64 rows, .int .i64 log, .int .i64 heads] 62) = W0 at *
  have s1 : IntKind.i64.wrap (heads + 1) = heads + 1 := IntWalk.i64_in _ (by omega)
  have s2 : IntKind.i64.wrap ((mem + 1) * (heads + 1)) = (mem + 1) * (heads + 1) := IntWalk.i64_in _ (by omega)
  have hg := BX.out.lt
  obtain ⟨c0, c1, c2, c3, c4, c5⟩ := BX.out.six
  refine wp_region_noPanic ?_
  refine PX.wp_region_y (fun w' => Below W0.heap.size W0 w') [9] (by kernel_rfl) (Below.refl _ _).drew (fun hHeld => ?_)
  refine PX.wpAnyY_take (i := 0) (oi := ?_) (v := ?_) ?_ (by kernel_rfl) (by kernel_rfl) (by kernel_rfl) (by kernel_rfl) (by kernel_rfl) (fun _ _ _ h => h) (Or.inl ⟨?_, ?_⟩) (by assumption) ?_
  rotate_left 2
  · simp only [List.getElem?_toArray, List.getElem?_cons_succ, List.getElem?_cons_zero]; rfl
  · rfl
  · intro w hSw; (try dsimp only at hSw); go_simp <;> with_reducible rfl
  (try simp only [Act.put, List.setIfInBounds_toArray, List.set_cons_zero, List.set_cons_succ])
  refine PX.wpAnyY_take (i := 1) (oi := ?_) (v := ?_) ?_ (by kernel_rfl) (by kernel_rfl) (by kernel_rfl) (by kernel_rfl) (by kernel_rfl) (fun _ _ _ h => h) (Or.inl ⟨?_, ?_⟩) (by assumption) ?_
  rotate_left 2
  · simp only [List.getElem?_toArray, List.getElem?_cons_succ, List.getElem?_cons_zero]; rfl
  · rfl
  · intro w hSw; (try dsimp only at hSw); have hC := fun (b o : Nat) (h : b < W0.heap.size) => Below.cell hSw (p := ⟨b, o, none⟩) h; go_simp <;> with_reducible rfl
  (try simp only [Act.put, List.setIfInBounds_toArray, List.set_cons_zero, List.set_cons_succ])
  refine PX.wpAnyY_take (i := 2) (oi := ?_) (v := ?_) ?_ (by kernel_rfl) (by kernel_rfl) (by kernel_rfl) (by kernel_rfl) (by kernel_rfl) (fun _ _ _ h => h) (Or.inl ⟨?_, ?_⟩) (by assumption) ?_
  rotate_left 2
  · simp only [List.getElem?_toArray, List.getElem?_cons_succ, List.getElem?_cons_zero]; rfl
  · rfl
  · intro w hSw; (try dsimp only at hSw); have hC := fun (b o : Nat) (h : b < W0.heap.size) => Below.cell hSw (p := ⟨b, o, none⟩) h; go_simp <;> with_reducible rfl
  (try simp only [Act.put, List.setIfInBounds_toArray, List.set_cons_zero, List.set_cons_succ])
  refine PX.wpAnyY_take (i := 4) (oi := ?_) (v := ?_) ?_ (by kernel_rfl) (by kernel_rfl) (by kernel_rfl) (by kernel_rfl) (by kernel_rfl) (fun _ _ _ h => h) (Or.inl ⟨?_, ?_⟩) (by assumption) ?_
  rotate_left 2
  · simp only [List.getElem?_toArray, List.getElem?_cons_succ, List.getElem?_cons_zero]; rfl
  · rfl
  · intro w hSw; (try dsimp only at hSw); go_simp <;> with_reducible rfl
  (try simp only [Act.put, List.setIfInBounds_toArray, List.set_cons_zero, List.set_cons_succ])
  refine PX.wpAnyY_take (i := 5) (oi := ?_) (v := ?_) ?_ (by kernel_rfl) (by kernel_rfl) (by kernel_rfl) (by kernel_rfl) (by kernel_rfl) (fun _ _ _ h => h) (Or.inl ⟨?_, ?_⟩) (by assumption) ?_
  rotate_left 2
  · simp only [List.getElem?_toArray, List.getElem?_cons_succ, List.getElem?_cons_zero]; rfl
  · rfl
  · intro w hSw; (try dsimp only at hSw); have hC := fun (b o : Nat) (h : b < W0.heap.size) => Below.cell hSw (p := ⟨b, o, none⟩) h; go_simp <;> with_reducible rfl
  (try simp only [Act.put, List.setIfInBounds_toArray, List.set_cons_zero, List.set_cons_succ])
  refine PX.wpAnyY_take (i := 6) (oi := ?_) (v := ?_) ?_ (by kernel_rfl) (by kernel_rfl) (by kernel_rfl) (by kernel_rfl) (by kernel_rfl) (fun _ _ _ h => h) (Or.inl ⟨?_, ?_⟩) (by assumption) ?_
  rotate_left 2
  · simp only [List.getElem?_toArray, List.getElem?_cons_succ, List.getElem?_cons_zero]; rfl
  · rfl
  · intro w hSw; (try dsimp only at hSw); go_simp <;> with_reducible rfl
  (try simp only [Act.put, List.setIfInBounds_toArray, List.set_cons_zero, List.set_cons_succ])
  refine PX.wpAnyY_one (i := 3) (o := ?_) (by kernel_rfl) ?_ (fun Kq hKq => ?_)
  rotate_left
  · simp only [List.getElem?_toArray, List.getElem?_cons_succ, List.getElem?_cons_zero]; rfl
  go_simp
  refine (CN.out _).mono ?_
  rintro e w1 ⟨rfl, bqw1⟩
  have Hw1 := Lib.hid (thence hHeld bqw1 (Nat.le_refl _))
  clear bqw1
  go_wp2_with fail
  refine hKq.out _ _ (Hw1.out) (fun hHeld => ?_)
  clear hKq Kq
  (try simp only [Act.put, List.setIfInBounds_toArray, List.set_cons_zero, List.set_cons_succ])
  refine PX.wpAnyY_one (i := 7) (o := ?_) (by kernel_rfl) ?_ (fun Kq hKq => ?_)
  rotate_left
  · simp only [List.getElem?_toArray, List.getElem?_cons_succ, List.getElem?_cons_zero]; rfl
  go_simp
  refine hKq.out _ _ (hHeld) (fun hHeld => ?_)
  clear hKq Kq
  (try simp only [Act.put, List.setIfInBounds_toArray, List.set_cons_zero, List.set_cons_succ])
  refine PX.wpAnyY_one (i := 8) (o := ?_) (by kernel_rfl) ?_ (fun Kq hKq => ?_)
  rotate_left
  · simp only [List.getElem?_toArray, List.getElem?_cons_succ, List.getElem?_cons_zero]; rfl
  go_simp
  refine (CI.out _ _ _ _).mono ?_
  rintro e w2 ⟨rfl, rfl⟩
  go_wp2_with fail
  refine hKq.out _ _ (hHeld) (fun hHeld => ?_)
  clear hKq Kq
  (try simp only [Act.put, List.setIfInBounds_toArray, List.set_cons_zero, List.set_cons_succ])
  refine PX.wpAnyY_free (i := 9) (o := ?_) (by kernel_rfl) (by kernel_rfl) ?_ (fun Kq hKq => ?_)
  rotate_left
  · simp only [List.getElem?_toArray, List.getElem?_cons_succ, List.getElem?_cons_zero]; rfl
  go_simp
  refine hKq.out _ _ ?_
  clear hKq Kq
  (try simp only [Act.put, List.setIfInBounds_toArray, List.set_cons_zero, List.set_cons_succ])
  refine PX.wpAnyY_done (by kernel_rfl) ?_ _
  refine NoPanic.normal ?_
  have HE := Lib.hid Hw1.out
  clear hHeld
  go_wp2_with fail
  go_ret
  exact ⟨rfl, thence B0.out HE.out (Nat.le_refl _)⟩

set_option maxHeartbeats 1000000 in
theorem refStripes_any (id : Nat) (mem chunk rows log heads : Int) (w : World) (h : Cfg.mayP ⟨id, mem, chunk, rows, log, heads⟩) :
    Calls Try.prog 52 #[.agg #[.int .u32 (id : Int), .int .i64 mem, .int .i64 chunk, .int .i64 rows, .int .i64 log, .int .i64 heads]] w fun e w' => e = .returned (.int .i64 (chunk * rows)) ∧ Below w.heap.size w w' := by
  have HM := Lib.hid h
  have hs := SK.stripes_bd h
  have hb := SK.blocks_bd h
  have hr := SK.room_bd h.1 h.2.2.2.1
  unfold Cfg.blocks at hb
  unfold Cfg.stripes at hs hb
  dsimp only at hs hb
  obtain ⟨⟨k0, k1⟩, ⟨k2, k3⟩, ⟨k4, k5⟩, ⟨k6, k7⟩, k8, k9⟩ := h
  obtain ⟨s0, s1⟩ := hs
  obtain ⟨t0, t1⟩ := hb
  dsimp only at k0 k1 k2 k3 k4 k5 k6 k7 k8 k9 hr
  have k10 : 12 ≤ log := by omega
  go_enter Try.func52, Try.ntmps52
  go_wp2
  go_ret
  exact ⟨rfl, (Below.refl _ _).alloc (Nat.le_refl _) _⟩

/-- What a call of the program that tells a config's number answers. -/
def ShapeNum (f : FuncId) (n : Cfg → Int) : Prop := ∀ (id : Nat) (mem chunk rows log heads : Int) (w : World), Calls Try.prog f #[.agg #[.int .u32 (id : Int), .int .i64 mem, .int .i64 chunk, .int .i64 rows, .int .i64 log, .int .i64 heads]] w fun e w' => e = .returned (.tuple #[.int .i64 (if Cfg.may ⟨id, mem, chunk, rows, log, heads⟩ = true then n ⟨id, mem, chunk, rows, log, heads⟩ else 0), .int .i64 ((Cfg.code ⟨id, mem, chunk, rows, log, heads⟩ : Nat) : Int)]) ∧ Below w.heap.size w w'
end Go.Proofs.Ytleaphlignfkjaa.PW
