/-
  Contracts of the document's own answers of layer 7.
-/
import Derived.Test.YthliogicdbnfoaaShapeRefs
import Derived.Test.YthliogicdbnfoaaTurnMath
import Derived.Deep.QuietTactic
import Derived.BigQuiet
namespace Go.Proofs.Ythliogicdbnfoaa.PW
open Go.RowKit
open SK (Cfg)
set_option linter.unusedVariables false
set_option linter.unusedSimpArgs false
set_option maxRecDepth 100000

/-- Some number of which P holds. -/
def SomeI (P : Int → Prop) (w : World) (e : Ending) (w' : World) : Prop := ∃ n : Int, e = .returned (.int .i64 n) ∧ P n ∧ Below w.heap.size w w'

set_option maxHeartbeats 1000000 in
theorem refStripes_some (id : Nat) (mem chunk rows log heads : Int) (w : World) :
    Calls Try.prog 31 #[.agg #[.int .u32 (id : Int), .int .i64 mem, .int .i64 chunk, .int .i64 rows, .int .i64 log, .int .i64 heads]] w (SomeI (fun n => Cfg.mayP ⟨id, mem, chunk, rows, log, heads⟩ → n = chunk * rows) w) := by
  by_cases h : Cfg.mayP ⟨id, mem, chunk, rows, log, heads⟩
  · exact (refStripes_any id mem chunk rows log heads w h).mono fun e w' ⟨he, hb⟩ => ⟨_, he, fun _ => rfl, hb⟩
  have HN := Lib.hid h
  clear h
  go_enter Try.func31, Try.ntmps31
  go_wp2
  go_ret
  exact ⟨_, rfl, fun h => absurd h HN.out, (Below.refl _ _).alloc (Nat.le_refl _) _⟩

set_option maxHeartbeats 1000000 in
theorem refBlocks_some (id : Nat) (mem chunk rows log heads : Int) (w : World) :
    Calls Try.prog 30 #[.agg #[.int .u32 (id : Int), .int .i64 mem, .int .i64 chunk, .int .i64 rows, .int .i64 log, .int .i64 heads]] w (SomeI (fun n => Cfg.mayP ⟨id, mem, chunk, rows, log, heads⟩ → n = chunk * rows * (mem - 1)) w) := by
  by_cases h : Cfg.mayP ⟨id, mem, chunk, rows, log, heads⟩
  · exact (refBlocks_any id mem chunk rows log heads w h).mono fun e w' ⟨he, hb⟩ => ⟨_, he, fun _ => rfl, hb⟩
  have HN := Lib.hid h
  clear h
  have B0 : Hid (Below w.heap.size w (w.alloc (.cells #[.int .u32 (id : Int), .int .i64 mem, .int .i64 chunk, .int .i64 rows, .int .i64 log, .int .i64 heads] 27))) := (Below.refl _ _).alloc (Nat.le_refl _) _
  have BX := Lib.hid (Bx.new w [.int .u32 (id : Int), .int .i64 mem, .int .i64 chunk, .int .i64 rows, .int .i64 log, .int .i64 heads] 27)
  have CS := Lib.hid (fun w1 => refStripes_some id mem chunk rows log heads w1)
  go_enter Try.func30, Try.ntmps30
  go_wp2_with fail
  have BX : Hid (Bx (w.alloc (.cells #[.int .u32 (id : Int), .int .i64 mem, .int .i64 chunk, .int .i64 rows, .int .i64 log, .int .i64 heads] 27)) w.heap.size [.int .u32 (id : Int), .int .i64 mem, .int .i64 chunk, .int .i64 rows, .int .i64 log, .int .i64 heads]) := BX
  generalize w.alloc (.cells #[.int .u32 (id : Int), .int .i64 mem, .int .i64 chunk, .int .i64 rows, .int .i64 log, .int .i64 heads] 27) = W0 at *
  have hg := BX.out.lt
  obtain ⟨c0, c1, c2, c3, c4, c5⟩ := BX.out.six
  refine wp_region_noPanic ?_
  refine PX.wp_region_y (fun w' => Below W0.heap.size W0 w') [6] (by kernel_rfl) (Below.refl _ _).drew (fun hHeld => ?_)
  refine PX.wpAnyY_take (i := 0) (oi := ?_) (v := ?_) ?_ (by kernel_rfl) (by kernel_rfl) (by kernel_rfl) (by kernel_rfl) (by kernel_rfl) (fun _ _ _ h => h) (Or.inl ⟨?_, ?_⟩) (by assumption) ?_
  rotate_left 2
  · simp only [List.getElem?_toArray, List.getElem?_cons_succ, List.getElem?_cons_zero]; rfl
  · rfl
  · intro w hSw; (try dsimp only at hSw); have hC := fun (b o : Nat) (h : b < W0.heap.size) => Below.cell hSw (p := ⟨b, o, none⟩) h; go_simp <;> with_reducible rfl
  (try simp only [Act.put, List.setIfInBounds_toArray, List.set_cons_zero, List.set_cons_succ])
  refine PX.wpAnyY_take (i := 2) (oi := ?_) (v := ?_) ?_ (by kernel_rfl) (by kernel_rfl) (by kernel_rfl) (by kernel_rfl) (by kernel_rfl) (fun _ _ _ h => h) (Or.inl ⟨?_, ?_⟩) (by assumption) ?_
  rotate_left 2
  · simp only [List.getElem?_toArray, List.getElem?_cons_succ, List.getElem?_cons_zero]; rfl
  · rfl
  · intro w hSw; (try dsimp only at hSw); go_simp <;> with_reducible rfl
  (try simp only [Act.put, List.setIfInBounds_toArray, List.set_cons_zero, List.set_cons_succ])
  refine PX.wpAnyY_take (i := 3) (oi := ?_) (v := ?_) ?_ (by kernel_rfl) (by kernel_rfl) (by kernel_rfl) (by kernel_rfl) (by kernel_rfl) (fun _ _ _ h => h) (Or.inl ⟨?_, ?_⟩) (by assumption) ?_
  rotate_left 2
  · simp only [List.getElem?_toArray, List.getElem?_cons_succ, List.getElem?_cons_zero]; rfl
  · rfl
  · intro w hSw; (try dsimp only at hSw); have hC := fun (b o : Nat) (h : b < W0.heap.size) => Below.cell hSw (p := ⟨b, o, none⟩) h; go_simp <;> with_reducible rfl
  (try simp only [Act.put, List.setIfInBounds_toArray, List.set_cons_zero, List.set_cons_succ])
  refine PX.wpAnyY_take (i := 4) (oi := ?_) (v := ?_) ?_ (by kernel_rfl) (by kernel_rfl) (by kernel_rfl) (by kernel_rfl) (by kernel_rfl) (fun _ _ _ h => h) (Or.inl ⟨?_, ?_⟩) (by assumption) ?_
  rotate_left 2
  · simp only [List.getElem?_toArray, List.getElem?_cons_succ, List.getElem?_cons_zero]; rfl
  · rfl
  · intro w hSw; (try dsimp only at hSw); go_simp <;> with_reducible rfl
  (try simp only [Act.put, List.setIfInBounds_toArray, List.set_cons_zero, List.set_cons_succ])
  refine PX.wpAnyY_one (i := 1) (o := ?_) (by kernel_rfl) ?_ (fun Kq hKq => ?_)
  rotate_left
  · simp only [List.getElem?_toArray, List.getElem?_cons_succ, List.getElem?_cons_zero]; rfl
  go_simp
  refine (CS.out _).mono ?_
  rintro e w1 ⟨n1, rfl, -, bqw1⟩
  have Hw1 := Lib.hid (thence hHeld bqw1 (Nat.le_refl _))
  clear bqw1
  go_wp2_with fail
  refine hKq.out _ _ (Hw1.out) (fun hHeld => ?_)
  clear hKq Kq
  (try simp only [Act.put, List.setIfInBounds_toArray, List.set_cons_zero, List.set_cons_succ])
  refine PX.wpAnyY_one (i := 5) (o := ?_) (by kernel_rfl) ?_ (fun Kq hKq => ?_)
  rotate_left
  · simp only [List.getElem?_toArray, List.getElem?_cons_succ, List.getElem?_cons_zero]; rfl
  go_simp
  refine hKq.out _ _ (hHeld) (fun hHeld => ?_)
  clear hKq Kq
  (try simp only [Act.put, List.setIfInBounds_toArray, List.set_cons_zero, List.set_cons_succ])
  refine PX.wpAnyY_free (i := 6) (o := ?_) (by kernel_rfl) (by kernel_rfl) ?_ (fun Kq hKq => ?_)
  rotate_left
  · simp only [List.getElem?_toArray, List.getElem?_cons_succ, List.getElem?_cons_zero]; rfl
  go_simp
  refine hKq.out _ _ ?_
  clear hKq Kq
  (try simp only [Act.put, List.setIfInBounds_toArray, List.set_cons_zero, List.set_cons_succ])
  refine PX.wpAnyY_done (by kernel_rfl) ?_ _
  refine NoPanic.normal ?_
  have HE := Lib.hid Hw1.out
  clear hHeld
  go_wp2_with fail
  go_ret
  exact ⟨_, rfl, fun h => absurd h HN.out, thence B0.out HE.out (Nat.le_refl _)⟩

/-- Whether numbers are below others. -/
def askB (a ba b bb : Int) : Nat := if 0 ≤ a ∧ a < ba ∧ 0 ≤ b ∧ b < bb then 0 else 2
def ask (c : Cfg) (a ba b bb : Int) : Nat := if c.may = true then askB a ba b bb else 8
theorem askB_yes {a ba b bb : Int} (h : 0 ≤ a ∧ a < ba ∧ 0 ≤ b ∧ b < bb) : askB a ba b bb = 0 := if_pos h
theorem askB_no {a ba b bb : Int} (h : ¬ (0 ≤ a ∧ a < ba ∧ 0 ≤ b ∧ b < bb)) : askB a ba b bb = 2 := if_neg h
theorem ask_iff {c : Cfg} {a ba b bb : Int} : ask c a ba b bb = 0 ↔ c.mayP ∧ 0 ≤ a ∧ a < ba ∧ 0 ≤ b ∧ b < bb := by
  unfold ask
  by_cases hm : c.may = true
  · rw [if_pos hm]
    by_cases h : 0 ≤ a ∧ a < ba ∧ 0 ≤ b ∧ b < bb
    · simp [askB_yes h, SK.may_iff.1 hm, h]
    · rw [askB_no h]; exact ⟨(fun e => by cases e), fun e => absurd e.2 h⟩
  · rw [if_neg hm]; exact ⟨(fun e => by cases e), fun e => absurd (SK.may_iff.2 e.1) hm⟩
theorem ask_some (c : Cfg) (a ba b bb : Int) : ask c a ba b bb = 0 ∨ ask c a ba b bb = 2 ∨ ask c a ba b bb = 8 := by
  unfold ask askB
  split
  · split <;> simp
  · simp

set_option maxHeartbeats 1000000 in
theorem refAsked_any (id : Nat) (mem chunk rows log heads : Int) (a ba b bb : Int) (w : World) :
    Calls Try.prog 29 #[.agg #[.int .u32 (id : Int), .int .i64 mem, .int .i64 chunk, .int .i64 rows, .int .i64 log, .int .i64 heads], .int .i64 a, .int .i64 ba, .int .i64 b, .int .i64 bb] w fun e w' => e = .returned (.int .i64 ((ask ⟨id, mem, chunk, rows, log, heads⟩ a ba b bb : Nat) : Int)) ∧ Below w.heap.size w w' := by
  have CM := Lib.hid (refMay_any id mem chunk rows log heads)
  have B0 : Hid (Below w.heap.size w (w.alloc (.cells #[.int .u32 (id : Int), .int .i64 mem, .int .i64 chunk, .int .i64 rows, .int .i64 log, .int .i64 heads] 27))) := (Below.refl _ _).alloc (Nat.le_refl _) _
  have BX := Lib.hid (Bx.new w [.int .u32 (id : Int), .int .i64 mem, .int .i64 chunk, .int .i64 rows, .int .i64 log, .int .i64 heads] 27)
  unfold ask
  cases hm : Cfg.may ⟨id, mem, chunk, rows, log, heads⟩ with
  | false =>
    rw [if_neg (by simp)]
    rw [hm] at CM
    clear hm
    go_enter Try.func29, Try.ntmps29
    go_wp2_with fail
    refine (CM.out _).mono ?_
    rintro e w1 ⟨rfl, b1⟩
    have B1 := Lib.hid (thence B0.out b1 (Nat.le_refl _))
    clear b1
    go_wp2_with fail
    go_ret
    exact ⟨rfl, B1.out⟩
  | true =>
    rw [if_pos rfl]
    rw [hm] at CM
    clear hm
    by_cases g0 : 0 ≤ a
    case neg =>
      rw [askB_no (fun h => g0 h.1)]
      go_enter Try.func29, Try.ntmps29
      go_wp2_with fail
      refine (CM.out _).mono ?_
      rintro e w1 ⟨rfl, b1⟩
      have B1 := Lib.hid (thence B0.out b1 (Nat.le_refl _))
      clear b1
      go_wp2_with fail
      go_ret
      exact ⟨rfl, B1.out⟩
    by_cases g1 : a < ba
    case neg =>
      rw [askB_no (fun h => g1 h.2.1)]
      go_enter Try.func29, Try.ntmps29
      go_wp2_with fail
      refine (CM.out _).mono ?_
      rintro e w1 ⟨rfl, b1⟩
      have B1 := Lib.hid (thence B0.out b1 (Nat.le_refl _))
      clear b1
      go_wp2_with fail
      go_ret
      exact ⟨rfl, B1.out⟩
    by_cases g2 : 0 ≤ b
    case neg =>
      rw [askB_no (fun h => g2 h.2.2.1)]
      go_enter Try.func29, Try.ntmps29
      go_wp2_with fail
      refine (CM.out _).mono ?_
      rintro e w1 ⟨rfl, b1⟩
      have B1 := Lib.hid (thence B0.out b1 (Nat.le_refl _))
      clear b1
      go_wp2_with fail
      go_ret
      exact ⟨rfl, B1.out⟩
    by_cases g3 : b < bb
    case neg =>
      rw [askB_no (fun h => g3 h.2.2.2)]
      go_enter Try.func29, Try.ntmps29
      go_wp2_with fail
      refine (CM.out _).mono ?_
      rintro e w1 ⟨rfl, b1⟩
      have B1 := Lib.hid (thence B0.out b1 (Nat.le_refl _))
      clear b1
      go_wp2_with fail
      go_ret
      exact ⟨rfl, B1.out⟩
    rw [askB_yes ⟨g0, g1, g2, g3⟩]
    go_enter Try.func29, Try.ntmps29
    go_wp2_with fail
    refine (CM.out _).mono ?_
    rintro e w1 ⟨rfl, b1⟩
    have B1 := Lib.hid (thence B0.out b1 (Nat.le_refl _))
    clear b1
    go_wp2_with fail
    go_ret
    exact ⟨rfl, B1.out⟩

set_option maxHeartbeats 1000000 in
theorem refAt_any (id : Nat) (mem chunk rows log heads : Int) (s k : Int) (w : World) (h : Cfg.mayP ⟨id, mem, chunk, rows, log, heads⟩) (g0 : 0 ≤ s) (g1 : s < chunk * rows) (g2 : 0 ≤ k) (g3 : k ≤ 16) :
    Calls Try.prog 32 #[.agg #[.int .u32 (id : Int), .int .i64 mem, .int .i64 chunk, .int .i64 rows, .int .i64 log, .int .i64 heads], .int .i64 s, .int .i64 k] w fun e w' => e = .returned (.int .i64 (TK.blockAt ⟨id, mem, chunk, rows, log, heads⟩ s k)) ∧ Below w.heap.size w w' := by
  have hrow := TK.row_bd h g0 g1
  have HM := Lib.hid h
  have hs := SK.stripes_bd h
  have hb := SK.blocks_bd h
  have hr := SK.room_bd h.1 h.2.2.2.1
  unfold Cfg.blocks at hb
  unfold Cfg.stripes at hs hb
  dsimp only at hs hb
  obtain ⟨⟨k0, k1⟩, ⟨k2, k3⟩, ⟨k4, k5⟩, ⟨k6, k7⟩, k8, k9⟩ := h
  obtain ⟨s0, s1⟩ := hs
  obtain ⟨t0, t1⟩ := hb
  dsimp only at k0 k1 k2 k3 k4 k5 k6 k7 k8 k9 hr
  have k10 : 12 ≤ log := by omega
  have B0 : Hid (Below w.heap.size w (w.alloc (.cells #[.int .u32 (id : Int), .int .i64 mem, .int .i64 chunk, .int .i64 rows, .int .i64 log, .int .i64 heads] 27))) := (Below.refl _ _).alloc (Nat.le_refl _) _
  have BX := Lib.hid (Bx.new w [.int .u32 (id : Int), .int .i64 mem, .int .i64 chunk, .int .i64 rows, .int .i64 log, .int .i64 heads] 27)
  unfold TK.blockAt
  dsimp only at hrow ⊢
  obtain ⟨v0, v1, v2⟩ := hrow
  have v3 : 0 ≤ s / chunk * (mem - 1) := Int.mul_nonneg v0 (by omega)
  have v4 : s / chunk * (mem - 1) ≤ 7 * 15 := Int.mul_le_mul v2 (by omega) (by omega) (by omega)
  have v5 : 0 ≤ (s / chunk * (mem - 1) + k) * chunk := Int.mul_nonneg (by omega) (by omega)
  have v6 : (s / chunk * (mem - 1) + k) * chunk ≤ 121 * 8 := Int.mul_le_mul (by omega) k3 (by omega) (by omega)
  obtain ⟨v7, v8⟩ := TK.rem_bd (a := s) (b := chunk) (by omega)
  go_enter Try.func32, Try.ntmps32
  go_wp2_with fail
  go_quiet (fail)
  go_wp2_with fail
  go_ret
  exact ⟨rfl, below_drewN ((Below.refl _ _).alloc (Nat.le_refl _) _) _⟩

set_option maxHeartbeats 1000000 in
theorem refOn_slot (id : Nat) (mem chunk rows log heads : Int) (s k : Int) (w : World) (h : Cfg.mayP ⟨id, mem, chunk, rows, log, heads⟩) (g0 : 0 ≤ s) (g1 : s < chunk * rows) (g2 : 0 ≤ k) (g3 : k < mem - 1) :
    Calls Try.prog 33 #[.agg #[.int .u32 (id : Int), .int .i64 mem, .int .i64 chunk, .int .i64 rows, .int .i64 log, .int .i64 heads], .int .i64 s, .int .i64 k] w fun e w' => e = .returned (.int .i64 (TK.memberOf ⟨id, mem, chunk, rows, log, heads⟩ s k)) ∧ Below w.heap.size w w' := by
  have hrow := TK.row_bd h g0 g1
  have HM := Lib.hid h
  have hs := SK.stripes_bd h
  have hb := SK.blocks_bd h
  have hr := SK.room_bd h.1 h.2.2.2.1
  unfold Cfg.blocks at hb
  unfold Cfg.stripes at hs hb
  dsimp only at hs hb
  obtain ⟨⟨k0, k1⟩, ⟨k2, k3⟩, ⟨k4, k5⟩, ⟨k6, k7⟩, k8, k9⟩ := h
  obtain ⟨s0, s1⟩ := hs
  obtain ⟨t0, t1⟩ := hb
  dsimp only at k0 k1 k2 k3 k4 k5 k6 k7 k8 k9 hr
  have k10 : 12 ≤ log := by omega
  dsimp only at hrow
  obtain ⟨v0, v1, v2⟩ := hrow
  have B0 : Hid (Below w.heap.size w (w.alloc (.cells #[.int .u32 (id : Int), .int .i64 mem, .int .i64 chunk, .int .i64 rows, .int .i64 log, .int .i64 heads] 27))) := (Below.refl _ _).alloc (Nat.le_refl _) _
  have BX := Lib.hid (Bx.new w [.int .u32 (id : Int), .int .i64 mem, .int .i64 chunk, .int .i64 rows, .int .i64 log, .int .i64 heads] 27)
  have HE := Lib.hid (TK.on_eq (c := ⟨id, mem, chunk, rows, log, heads⟩) (s := s) (k := k))
  dsimp only at HE
  have v3 : 0 ≤ s / chunk * (mem - 1) := Int.mul_nonneg v0 (by omega)
  have v4 : s / chunk * (mem - 1) ≤ 7 * 15 := Int.mul_le_mul v2 (by omega) (by omega) (by omega)
  have e0 : (k == mem - 1) = false := beq_eq_false_iff_ne.2 (by omega)
  go_enter Try.func33, Try.ntmps33
  go_wp2_with fail
  go_ret
  exact ⟨by rw [← HE.out]; rfl, (Below.refl _ _).alloc (Nat.le_refl _) _⟩

set_option maxHeartbeats 1000000 in
theorem refOn_last (id : Nat) (mem chunk rows log heads : Int) (s k : Int) (w : World) (h : Cfg.mayP ⟨id, mem, chunk, rows, log, heads⟩) (g0 : 0 ≤ s) (g1 : s < chunk * rows) (g3 : k = mem - 1) :
    Calls Try.prog 33 #[.agg #[.int .u32 (id : Int), .int .i64 mem, .int .i64 chunk, .int .i64 rows, .int .i64 log, .int .i64 heads], .int .i64 s, .int .i64 k] w fun e w' => e = .returned (.int .i64 (TK.parityOf ⟨id, mem, chunk, rows, log, heads⟩ s)) ∧ Below w.heap.size w w' := by
  subst g3
  have CO : Hid (∀ (k : Int) (w1 : World), 0 ≤ k → k < mem - 1 → Calls Try.prog 33 #[.agg #[.int .u32 (id : Int), .int .i64 mem, .int .i64 chunk, .int .i64 rows, .int .i64 log, .int .i64 heads], .int .i64 s, .int .i64 k] w1 fun e w' => e = .returned (.int .i64 (TK.memberOf ⟨id, mem, chunk, rows, log, heads⟩ s k)) ∧ Below w1.heap.size w1 w') := fun k w1 h2 h3 => refOn_slot id mem chunk rows log heads s k w1 h g0 g1 h2 h3
  have UL : Hid (∀ j : Nat, (j : Int) = mem - 1 → mem * (mem - 1) / 2 - TK.used ⟨id, mem, chunk, rows, log, heads⟩ s j = TK.parityOf ⟨id, mem, chunk, rows, log, heads⟩ s) := fun j hj => TK.used_last h s hj
  have UB : Hid (∀ j : Nat, 0 ≤ TK.used ⟨id, mem, chunk, rows, log, heads⟩ s j ∧ TK.used ⟨id, mem, chunk, rows, log, heads⟩ s j ≤ 16 * j) := TK.used_bd h s
  have MB : Hid (∀ k : Int, 0 ≤ TK.memberOf ⟨id, mem, chunk, rows, log, heads⟩ s k ∧ TK.memberOf ⟨id, mem, chunk, rows, log, heads⟩ s k < mem) := TK.member_bd h s
  have hrow := TK.row_bd h g0 g1
  have HM := Lib.hid h
  have hs := SK.stripes_bd h
  have hb := SK.blocks_bd h
  have hr := SK.room_bd h.1 h.2.2.2.1
  unfold Cfg.blocks at hb
  unfold Cfg.stripes at hs hb
  dsimp only at hs hb
  obtain ⟨⟨k0, k1⟩, ⟨k2, k3⟩, ⟨k4, k5⟩, ⟨k6, k7⟩, k8, k9⟩ := h
  obtain ⟨s0, s1⟩ := hs
  obtain ⟨t0, t1⟩ := hb
  dsimp only at k0 k1 k2 k3 k4 k5 k6 k7 k8 k9 hr
  have k10 : 12 ≤ log := by omega
  dsimp only at hrow
  obtain ⟨v0, v1, v2⟩ := hrow
  have B0 : Hid (Below w.heap.size w (w.alloc (.cells #[.int .u32 (id : Int), .int .i64 mem, .int .i64 chunk, .int .i64 rows, .int .i64 log, .int .i64 heads] 27))) := (Below.refl _ _).alloc (Nat.le_refl _) _
  have BX := Lib.hid (Bx.new w [.int .u32 (id : Int), .int .i64 mem, .int .i64 chunk, .int .i64 rows, .int .i64 log, .int .i64 heads] 27)
  have v3 : 6 ≤ mem * (mem - 1) := by have := Int.mul_le_mul (show 3 ≤ mem by omega) (show 2 ≤ mem - 1 by omega) (by omega) (by omega); omega
  have v4 : mem * (mem - 1) ≤ 240 := by have := Int.mul_le_mul (show mem ≤ 16 by omega) (show mem - 1 ≤ 15 by omega) (by omega) (by omega); omega
  have e0 : ((mem - 1 : Int) == mem - 1) = true := beq_iff_eq.2 rfl
  go_enter Try.func33, Try.ntmps33
  go_wp2_with fail
  have BX : Hid (Bx (w.alloc (.cells #[.int .u32 (id : Int), .int .i64 mem, .int .i64 chunk, .int .i64 rows, .int .i64 log, .int .i64 heads] 27)) w.heap.size [.int .u32 (id : Int), .int .i64 mem, .int .i64 chunk, .int .i64 rows, .int .i64 log, .int .i64 heads]) := BX
  generalize w.alloc (.cells #[.int .u32 (id : Int), .int .i64 mem, .int .i64 chunk, .int .i64 rows, .int .i64 log, .int .i64 heads] 27) = W0 at *
  have hg := BX.out.lt
  obtain ⟨c0, c1, c2, c3, c4, c5⟩ := BX.out.six
  clear c0 c1 c2 c3 c4 c5
  go_loopw [8, 9] (fun u i wr => ∃ j : Nat, (j : Int) ≤ mem - 1 ∧ i = .int .i64 j ∧ u = .int .i64 (TK.used ⟨id, mem, chunk, rows, log, heads⟩ s j) ∧ Below W0.heap.size W0 wr) (fun _ i _ => (mem - 1).toNat - (intOf i).toNat)
  case atStart => exact ⟨0, by omega, rfl, rfl, Below.refl _ _⟩
  case round =>
    obtain ⟨j, hj, rfl, rfl, hb⟩ := hrel
    have HB := Lib.hid hb
    have BR := Lib.hid (BX.out.here hb)
    have hgr := BR.out.lt
    obtain ⟨c0, c1, c2, c3, c4, c5⟩ := BR.out.six
    obtain ⟨ub0, ub1⟩ := UB.out j
    clear hb
    by_cases hlt : (j : Int) < mem - 1
    · obtain ⟨mb0, mb1⟩ := MB.out (j : Int)
      have HU : Hid (TK.used ⟨id, mem, chunk, rows, log, heads⟩ s (j + 1) = TK.used ⟨id, mem, chunk, rows, log, heads⟩ s j + TK.memberOf ⟨id, mem, chunk, rows, log, heads⟩ s j) := rfl
      have COJ := Lib.hid (fun w1 => CO.out (j : Int) w1 (by omega) hlt)
      generalize TK.used ⟨id, mem, chunk, rows, log, heads⟩ s j = uj at *
      generalize TK.memberOf ⟨id, mem, chunk, rows, log, heads⟩ s j = mj at *
      go_wp2_with fail
      refine (COJ.out _).mono ?_
      rintro e w2 ⟨rfl, b2⟩
      have B2 := Lib.hid (thence HB.out b2 (Nat.le_refl _))
      clear b2
      go_wp2_with fail
      go_roundw
      case rel => exact ⟨j + 1, by omega, by go_num, by rw [HU.out], B2.out⟩
      case measure => simp [intOf]; omega
    · have HL := Lib.hid (UL.out j (by omega))
      generalize TK.used ⟨id, mem, chunk, rows, log, heads⟩ s j = uj at *
      go_wp2_with fail
      go_ret
      exact ⟨by rw [← HL.out]; rfl, thence B0.out HB.out (Nat.le_refl _)⟩

theorem refOn_any (id : Nat) (mem chunk rows log heads : Int) (s k : Int) (w : World) (h : Cfg.mayP ⟨id, mem, chunk, rows, log, heads⟩) (g0 : 0 ≤ s) (g1 : s < chunk * rows) (g2 : 0 ≤ k) (g3 : k < mem) :
    Calls Try.prog 33 #[.agg #[.int .u32 (id : Int), .int .i64 mem, .int .i64 chunk, .int .i64 rows, .int .i64 log, .int .i64 heads], .int .i64 s, .int .i64 k] w fun e w' => e = .returned (.int .i64 (TK.memberOf ⟨id, mem, chunk, rows, log, heads⟩ s k)) ∧ Below w.heap.size w w' := by
  by_cases hk : k < mem - 1
  · exact refOn_slot id mem chunk rows log heads s k w h g0 g1 g2 hk
  · obtain rfl : k = mem - 1 := by omega
    have := refOn_last id mem chunk rows log heads s (mem - 1) w h g0 g1 rfl
    rw [← TK.member_last h s] at this
    exact this

set_option maxHeartbeats 1000000 in
theorem refIn_slot (id : Nat) (mem chunk rows log heads : Int) (s m : Int) (w : World) (h : Cfg.mayP ⟨id, mem, chunk, rows, log, heads⟩) (g0 : 0 ≤ s) (g1 : s < chunk * rows) (g2 : 0 ≤ m) (g3 : m < mem) :
    Calls Try.prog 34 #[.agg #[.int .u32 (id : Int), .int .i64 mem, .int .i64 chunk, .int .i64 rows, .int .i64 log, .int .i64 heads], .int .i64 s, .int .i64 m] w fun e w' => e = .returned (.int .i64 (TK.slotOf ⟨id, mem, chunk, rows, log, heads⟩ s m)) ∧ Below w.heap.size w w' := by
  have CO : Hid (∀ (k : Int) (w1 : World), 0 ≤ k → k < mem - 1 → Calls Try.prog 33 #[.agg #[.int .u32 (id : Int), .int .i64 mem, .int .i64 chunk, .int .i64 rows, .int .i64 log, .int .i64 heads], .int .i64 s, .int .i64 k] w1 fun e w' => e = .returned (.int .i64 (TK.memberOf ⟨id, mem, chunk, rows, log, heads⟩ s k)) ∧ Below w1.heap.size w1 w') := fun k w1 h2 h3 => refOn_slot id mem chunk rows log heads s k w1 h g0 g1 h2 h3
  have SB := Lib.hid (TK.slot_bd h s m)
  have MS := Lib.hid (TK.member_slot h (s := s) g2 g3)
  have SM : Hid (∀ k : Int, 0 ≤ k → k < mem → TK.slotOf ⟨id, mem, chunk, rows, log, heads⟩ s (TK.memberOf ⟨id, mem, chunk, rows, log, heads⟩ s k) = k) := fun k h0 h1 => TK.slot_member h h0 h1
  dsimp only at SB
  have HM := Lib.hid h
  have hs := SK.stripes_bd h
  have hb := SK.blocks_bd h
  have hr := SK.room_bd h.1 h.2.2.2.1
  unfold Cfg.blocks at hb
  unfold Cfg.stripes at hs hb
  dsimp only at hs hb
  obtain ⟨⟨k0, k1⟩, ⟨k2, k3⟩, ⟨k4, k5⟩, ⟨k6, k7⟩, k8, k9⟩ := h
  obtain ⟨s0, s1⟩ := hs
  obtain ⟨t0, t1⟩ := hb
  dsimp only at k0 k1 k2 k3 k4 k5 k6 k7 k8 k9 hr
  have k10 : 12 ≤ log := by omega
  have B0 : Hid (Below w.heap.size w (w.alloc (.cells #[.int .u32 (id : Int), .int .i64 mem, .int .i64 chunk, .int .i64 rows, .int .i64 log, .int .i64 heads] 27))) := (Below.refl _ _).alloc (Nat.le_refl _) _
  have BX := Lib.hid (Bx.new w [.int .u32 (id : Int), .int .i64 mem, .int .i64 chunk, .int .i64 rows, .int .i64 log, .int .i64 heads] 27)
  go_enter Try.func34, Try.ntmps34
  go_wp2_with fail
  have BX : Hid (Bx (w.alloc (.cells #[.int .u32 (id : Int), .int .i64 mem, .int .i64 chunk, .int .i64 rows, .int .i64 log, .int .i64 heads] 27)) w.heap.size [.int .u32 (id : Int), .int .i64 mem, .int .i64 chunk, .int .i64 rows, .int .i64 log, .int .i64 heads]) := BX
  generalize w.alloc (.cells #[.int .u32 (id : Int), .int .i64 mem, .int .i64 chunk, .int .i64 rows, .int .i64 log, .int .i64 heads] 27) = W0 at *
  have hg := BX.out.lt
  obtain ⟨c0, c1, c2, c3, c4, c5⟩ := BX.out.six
  clear c0 c1 c2 c3 c4 c5
  obtain ⟨sb0, sb1⟩ := SB.out
  go_loopw [7] (fun i wr => ∃ j : Nat, (j : Int) ≤ mem - 1 ∧ (j : Int) ≤ TK.slotOf ⟨id, mem, chunk, rows, log, heads⟩ s m ∧ i = .int .i64 j ∧ Below W0.heap.size W0 wr) (fun i _ => (mem - 1).toNat - (intOf i).toNat)
  case atStart => exact ⟨0, by omega, by omega, rfl, Below.refl _ _⟩
  case round =>
    obtain ⟨j, hj, hj2, rfl, hb⟩ := hrel
    have HB := Lib.hid hb
    have BR := Lib.hid (BX.out.here hb)
    have hgr := BR.out.lt
    obtain ⟨c0, c1, c2, c3, c4, c5⟩ := BR.out.six
    clear hb
    by_cases hlt : (j : Int) < mem - 1
    · have COJ := Lib.hid (fun w1 => CO.out (j : Int) w1 (by omega) hlt)
      by_cases hy : TK.memberOf ⟨id, mem, chunk, rows, log, heads⟩ s (j : Int) = m
      · have HS : Hid (TK.slotOf ⟨id, mem, chunk, rows, log, heads⟩ s m = j) := by have := SM.out j (by omega) (by omega); rw [hy] at this; exact this
        rw [hy] at COJ
        clear hy
        go_wp2_with fail
        refine (COJ.out _).mono ?_
        rintro e w2 ⟨rfl, b2⟩
        have B2 := Lib.hid (thence B0.out (thence HB.out b2 (Nat.le_refl _)) (Nat.le_refl _))
        clear b2
        go_wp2_with fail
        go_ret
        exact ⟨by rw [HS.out]; rfl, B2.out⟩
      · have hf : (TK.memberOf ⟨id, mem, chunk, rows, log, heads⟩ s (j : Int) == m) = false := beq_eq_false_iff_ne.2 hy
        have hne : (j : Int) ≠ TK.slotOf ⟨id, mem, chunk, rows, log, heads⟩ s m := fun e => hy (by rw [e]; exact MS.out)
        clear hy
        generalize TK.memberOf ⟨id, mem, chunk, rows, log, heads⟩ s (j : Int) = mj at *
        go_wp2_with fail
        refine (COJ.out _).mono ?_
        rintro e w2 ⟨rfl, b2⟩
        have B2 := Lib.hid (thence HB.out b2 (Nat.le_refl _))
        clear b2
        go_wp2_with fail
        go_roundw
        case rel => exact ⟨j + 1, by omega, by omega, by go_num, B2.out⟩
        case measure => simp [intOf]; omega
    · have HS : Hid (TK.slotOf ⟨id, mem, chunk, rows, log, heads⟩ s m = mem - 1) := by show _ = _; omega
      go_wp2_with fail
      go_ret
      exact ⟨by rw [HS.out]; rfl, thence B0.out HB.out (Nat.le_refl _)⟩

theorem ask_same {c : Cfg} {a n n' b bb bb' : Int} (h : c.mayP → n = n') (h' : c.mayP → bb = bb') : ask c a n b bb = ask c a n' b bb' := by
  unfold ask
  by_cases hm : c.may = true
  · rw [if_pos hm, if_pos hm, h (SK.may_iff.1 hm), h' (SK.may_iff.1 hm)]
  · rw [if_neg hm, if_neg hm]

set_option maxHeartbeats 1000000 in
theorem ref7Block_any (id : Nat) (mem chunk rows log heads : Int) (s k : Int) (w : World) :
    Calls Try.prog 15 #[.agg #[.int .u32 (id : Int), .int .i64 mem, .int .i64 chunk, .int .i64 rows, .int .i64 log, .int .i64 heads], .int .i64 s, .int .i64 k] w fun e w' => e = .returned (.tuple #[.int .i64 (if ask ⟨id, mem, chunk, rows, log, heads⟩ s (chunk * rows) k (mem - 1) = 0 then TK.blockAt ⟨id, mem, chunk, rows, log, heads⟩ s k else 0), .int .i64 ((ask ⟨id, mem, chunk, rows, log, heads⟩ s (chunk * rows) k (mem - 1) : Nat) : Int)]) ∧ Below w.heap.size w w' := by
  have CS := Lib.hid (fun w1 => refStripes_some id mem chunk rows log heads w1)
  have CA := Lib.hid (refAsked_any id mem chunk rows log heads)
  obtain ⟨m1, hm1, hm2⟩ : ∃ m1 : Int, IntKind.i64.wrap (mem - 1) = m1 ∧ (Cfg.mayP ⟨id, mem, chunk, rows, log, heads⟩ → m1 = mem - 1) := ⟨_, rfl, fun h => IntWalk.i64_in _ (by have h1 := h.1; dsimp only at h1; omega)⟩
  have HM2 := Lib.hid hm2
  clear hm2
  have B0 : Hid (Below w.heap.size w (w.alloc (.cells #[.int .u32 (id : Int), .int .i64 mem, .int .i64 chunk, .int .i64 rows, .int .i64 log, .int .i64 heads] 27))) := (Below.refl _ _).alloc (Nat.le_refl _) _
  have BX := Lib.hid (Bx.new w [.int .u32 (id : Int), .int .i64 mem, .int .i64 chunk, .int .i64 rows, .int .i64 log, .int .i64 heads] 27)
  obtain ⟨q, hq0⟩ : ∃ q, ask ⟨id, mem, chunk, rows, log, heads⟩ s (chunk * rows) k (mem - 1) = q := ⟨_, rfl⟩
  have HQ0 := Lib.hid hq0
  rw [hq0]
  by_cases g : q = 0
  · subst g
    have HA := ask_iff.1 hq0
    clear hq0
    have CT := Lib.hid (fun w1 => refAt_any id mem chunk rows log heads s k w1 HA.1 HA.2.1 HA.2.2.1 HA.2.2.2.1 (by have h1 := HA.1.1; have h2 := HA.2.2.2.2; dsimp only at h1 h2; omega))
    simp only [if_pos]
    clear HA
    go_enter Try.func15, Try.ntmps15
    go_wp2_with fail
    have BX : Hid (Bx (w.alloc (.cells #[.int .u32 (id : Int), .int .i64 mem, .int .i64 chunk, .int .i64 rows, .int .i64 log, .int .i64 heads] 27)) w.heap.size [.int .u32 (id : Int), .int .i64 mem, .int .i64 chunk, .int .i64 rows, .int .i64 log, .int .i64 heads]) := BX
    generalize w.alloc (.cells #[.int .u32 (id : Int), .int .i64 mem, .int .i64 chunk, .int .i64 rows, .int .i64 log, .int .i64 heads] 27) = W0 at *
    have hg := BX.out.lt
    obtain ⟨c0, c1, c2, c3, c4, c5⟩ := BX.out.six
    refine wp_region_noPanic ?_
    refine PX.wp_region_y (fun w' => Below W0.heap.size W0 w') [9] (by kernel_rfl) (Below.refl _ _).drew (fun hHeld => ?_)
    refine PX.wpAnyY_take (i := 0) (oi := ?_) (v := ?_) ?_ (by kernel_rfl) (by kernel_rfl) (by kernel_rfl) (by kernel_rfl) (by kernel_rfl) (fun _ _ _ h => h) (Or.inl ⟨?_, ?_⟩) (by assumption) ?_
    rotate_left 2
    · simp only [List.getElem?_toArray, List.getElem?_cons_succ, List.getElem?_cons_zero]; rfl
    · rfl
    · intro w hSw; (try dsimp only at hSw); have hC := fun (b o : Nat) (h : b < W0.heap.size) => Below.cell hSw (p := ⟨b, o, none⟩) h; go_simp <;> with_reducible rfl
    (try simp only [Act.put, List.setIfInBounds_toArray, List.set_cons_zero, List.set_cons_succ])
    refine PX.wpAnyY_take (i := 1) (oi := ?_) (v := ?_) ?_ (by kernel_rfl) (by kernel_rfl) (by kernel_rfl) (by kernel_rfl) (by kernel_rfl) (fun _ _ _ h => h) (Or.inl ⟨?_, ?_⟩) (by assumption) ?_
    rotate_left 2
    · simp only [List.getElem?_toArray, List.getElem?_cons_succ, List.getElem?_cons_zero]; rfl
    · rfl
    · intro w hSw; (try dsimp only at hSw); go_simp <;> with_reducible rfl
    (try simp only [Act.put, List.setIfInBounds_toArray, List.set_cons_zero, List.set_cons_succ])
    refine PX.wpAnyY_take (i := 2) (oi := ?_) (v := ?_) ?_ (by kernel_rfl) (by kernel_rfl) (by kernel_rfl) (by kernel_rfl) (by kernel_rfl) (fun _ _ _ h => h) (Or.inl ⟨?_, ?_⟩) (by assumption) ?_
    rotate_left 2
    · simp only [List.getElem?_toArray, List.getElem?_cons_succ, List.getElem?_cons_zero]; rfl
    · rfl
    · intro w hSw; (try dsimp only at hSw); have hC := fun (b o : Nat) (h : b < W0.heap.size) => Below.cell hSw (p := ⟨b, o, none⟩) h; go_simp <;> with_reducible rfl
    (try simp only [Act.put, List.setIfInBounds_toArray, List.set_cons_zero, List.set_cons_succ])
    refine PX.wpAnyY_take (i := 4) (oi := ?_) (v := ?_) ?_ (by kernel_rfl) (by kernel_rfl) (by kernel_rfl) (by kernel_rfl) (by kernel_rfl) (fun _ _ _ h => h) (Or.inl ⟨?_, ?_⟩) (by assumption) ?_
    rotate_left 2
    · simp only [List.getElem?_toArray, List.getElem?_cons_succ, List.getElem?_cons_zero]; rfl
    · rfl
    · intro w hSw; (try dsimp only at hSw); go_simp <;> with_reducible rfl
    (try simp only [Act.put, List.setIfInBounds_toArray, List.set_cons_zero, List.set_cons_succ])
    refine PX.wpAnyY_take (i := 5) (oi := ?_) (v := ?_) ?_ (by kernel_rfl) (by kernel_rfl) (by kernel_rfl) (by kernel_rfl) (by kernel_rfl) (fun _ _ _ h => h) (Or.inl ⟨?_, ?_⟩) (by assumption) ?_
    rotate_left 2
    · simp only [List.getElem?_toArray, List.getElem?_cons_succ, List.getElem?_cons_zero]; rfl
    · rfl
    · intro w hSw; (try dsimp only at hSw); go_simp <;> with_reducible rfl
    (try simp only [Act.put, List.setIfInBounds_toArray, List.set_cons_zero, List.set_cons_succ])
    refine PX.wpAnyY_take (i := 6) (oi := ?_) (v := ?_) ?_ (by kernel_rfl) (by kernel_rfl) (by kernel_rfl) (by kernel_rfl) (by kernel_rfl) (fun _ _ _ h => h) (Or.inl ⟨?_, ?_⟩) (by assumption) ?_
    rotate_left 2
    · simp only [List.getElem?_toArray, List.getElem?_cons_succ, List.getElem?_cons_zero]; rfl
    · rfl
    · intro w hSw; (try dsimp only at hSw); have hC := fun (b o : Nat) (h : b < W0.heap.size) => Below.cell hSw (p := ⟨b, o, none⟩) h; go_simp <;> with_reducible rfl
    (try simp only [Act.put, List.setIfInBounds_toArray, List.set_cons_zero, List.set_cons_succ])
    refine PX.wpAnyY_take (i := 7) (oi := ?_) (v := ?_) ?_ (by kernel_rfl) (by kernel_rfl) (by kernel_rfl) (by kernel_rfl) (by kernel_rfl) (fun _ _ _ h => h) (Or.inl ⟨?_, ?_⟩) (by assumption) ?_
    rotate_left 2
    · simp only [List.getElem?_toArray, List.getElem?_cons_succ, List.getElem?_cons_zero]; rfl
    · rfl
    · intro w hSw; (try dsimp only at hSw); go_simp <;> with_reducible rfl
    (try simp only [Act.put, List.setIfInBounds_toArray, List.set_cons_zero, List.set_cons_succ])
    refine PX.wpAnyY_one (i := 3) (o := ?_) (by kernel_rfl) ?_ (fun Kq hKq => ?_)
    rotate_left
    · simp only [List.getElem?_toArray, List.getElem?_cons_succ, List.getElem?_cons_zero]; rfl
    go_simp
    refine (CS.out _).mono ?_
    rintro e w1 ⟨n1, rfl, hn1, bqw1⟩
    have Hw1 := Lib.hid (thence hHeld bqw1 (Nat.le_refl _))
    have HN1 := Lib.hid hn1
    clear bqw1
    go_wp2_with fail
    refine hKq.out _ _ (Hw1.out) (fun hHeld => ?_)
    clear hKq Kq
    (try simp only [Act.put, List.setIfInBounds_toArray, List.set_cons_zero, List.set_cons_succ])
    refine PX.wpAnyY_one (i := 8) (o := ?_) (by kernel_rfl) ?_ (fun Kq hKq => ?_)
    rotate_left
    · simp only [List.getElem?_toArray, List.getElem?_cons_succ, List.getElem?_cons_zero]; rfl
    go_simp
    refine (CA.out _ _ _ _ _).mono ?_
    rintro e w2 ⟨rfl, b2⟩
    have H2 := Lib.hid (thence Hw1.out b2 (Nat.le_refl _))
    clear b2
    go_wp2_with fail
    refine hKq.out _ _ (H2.out) (fun hHeld => ?_)
    clear hKq Kq
    (try simp only [Act.put, List.setIfInBounds_toArray, List.set_cons_zero, List.set_cons_succ])
    refine PX.wpAnyY_free (i := 9) (o := ?_) (by kernel_rfl) (by kernel_rfl) ?_ (fun Kq hKq => ?_)
    rotate_left
    · simp only [List.getElem?_toArray, List.getElem?_cons_succ, List.getElem?_cons_zero]; rfl
    go_simp
    refine hKq.out _ _ ?_
    clear hKq Kq
    (try simp only [Act.put, List.setIfInBounds_toArray, List.set_cons_zero, List.set_cons_succ])
    refine PX.wpAnyY_done (by kernel_rfl) ?_ _
    refine NoPanic.normal ?_
    have HQ : Hid (ask ⟨id, mem, chunk, rows, log, heads⟩ s n1 k m1 = 0) := (ask_same (fun h => hn1 h) (fun h => HM2.out h)).trans HQ0.out
    rw [HQ.out]
    have B2 := Lib.hid (thence B0.out H2.out (Nat.le_refl _))
    have BX := Lib.hid (BX.out.here H2.out)
    clear hHeld hn1 HQ c0 c1 c2 c3 c4 c5
    obtain ⟨c0, c1, c2, c3, c4, c5⟩ := BX.out.six
    have hg2 := BX.out.lt
    go_wp2_with fail
    refine (CT.out _).mono ?_
    rintro e w3 ⟨rfl, b3⟩
    have B3 := Lib.hid (thence B2.out b3 (Nat.le_refl _))
    clear b3
    go_wp2_with fail
    go_ret2
    exact ⟨rfl, B3.out⟩
  · have e0 : ((q : Int) == 0) = false := beq_eq_false_iff_ne.2 (by omega)
    have e1 : ((q : Int) != 0) = true := by rw [bne, e0]; rfl
    simp only [if_neg g]
    clear hq0 g
    go_enter Try.func15, Try.ntmps15
    go_wp2_with fail
    have BX : Hid (Bx (w.alloc (.cells #[.int .u32 (id : Int), .int .i64 mem, .int .i64 chunk, .int .i64 rows, .int .i64 log, .int .i64 heads] 27)) w.heap.size [.int .u32 (id : Int), .int .i64 mem, .int .i64 chunk, .int .i64 rows, .int .i64 log, .int .i64 heads]) := BX
    generalize w.alloc (.cells #[.int .u32 (id : Int), .int .i64 mem, .int .i64 chunk, .int .i64 rows, .int .i64 log, .int .i64 heads] 27) = W0 at *
    have hg := BX.out.lt
    obtain ⟨c0, c1, c2, c3, c4, c5⟩ := BX.out.six
    refine wp_region_noPanic ?_
    refine PX.wp_region_y (fun w' => Below W0.heap.size W0 w') [9] (by kernel_rfl) (Below.refl _ _).drew (fun hHeld => ?_)
    refine PX.wpAnyY_take (i := 0) (oi := ?_) (v := ?_) ?_ (by kernel_rfl) (by kernel_rfl) (by kernel_rfl) (by kernel_rfl) (by kernel_rfl) (fun _ _ _ h => h) (Or.inl ⟨?_, ?_⟩) (by assumption) ?_
    rotate_left 2
    · simp only [List.getElem?_toArray, List.getElem?_cons_succ, List.getElem?_cons_zero]; rfl
    · rfl
    · intro w hSw; (try dsimp only at hSw); have hC := fun (b o : Nat) (h : b < W0.heap.size) => Below.cell hSw (p := ⟨b, o, none⟩) h; go_simp <;> with_reducible rfl
    (try simp only [Act.put, List.setIfInBounds_toArray, List.set_cons_zero, List.set_cons_succ])
    refine PX.wpAnyY_take (i := 1) (oi := ?_) (v := ?_) ?_ (by kernel_rfl) (by kernel_rfl) (by kernel_rfl) (by kernel_rfl) (by kernel_rfl) (fun _ _ _ h => h) (Or.inl ⟨?_, ?_⟩) (by assumption) ?_
    rotate_left 2
    · simp only [List.getElem?_toArray, List.getElem?_cons_succ, List.getElem?_cons_zero]; rfl
    · rfl
    · intro w hSw; (try dsimp only at hSw); go_simp <;> with_reducible rfl
    (try simp only [Act.put, List.setIfInBounds_toArray, List.set_cons_zero, List.set_cons_succ])
    refine PX.wpAnyY_take (i := 2) (oi := ?_) (v := ?_) ?_ (by kernel_rfl) (by kernel_rfl) (by kernel_rfl) (by kernel_rfl) (by kernel_rfl) (fun _ _ _ h => h) (Or.inl ⟨?_, ?_⟩) (by assumption) ?_
    rotate_left 2
    · simp only [List.getElem?_toArray, List.getElem?_cons_succ, List.getElem?_cons_zero]; rfl
    · rfl
    · intro w hSw; (try dsimp only at hSw); have hC := fun (b o : Nat) (h : b < W0.heap.size) => Below.cell hSw (p := ⟨b, o, none⟩) h; go_simp <;> with_reducible rfl
    (try simp only [Act.put, List.setIfInBounds_toArray, List.set_cons_zero, List.set_cons_succ])
    refine PX.wpAnyY_take (i := 4) (oi := ?_) (v := ?_) ?_ (by kernel_rfl) (by kernel_rfl) (by kernel_rfl) (by kernel_rfl) (by kernel_rfl) (fun _ _ _ h => h) (Or.inl ⟨?_, ?_⟩) (by assumption) ?_
    rotate_left 2
    · simp only [List.getElem?_toArray, List.getElem?_cons_succ, List.getElem?_cons_zero]; rfl
    · rfl
    · intro w hSw; (try dsimp only at hSw); go_simp <;> with_reducible rfl
    (try simp only [Act.put, List.setIfInBounds_toArray, List.set_cons_zero, List.set_cons_succ])
    refine PX.wpAnyY_take (i := 5) (oi := ?_) (v := ?_) ?_ (by kernel_rfl) (by kernel_rfl) (by kernel_rfl) (by kernel_rfl) (by kernel_rfl) (fun _ _ _ h => h) (Or.inl ⟨?_, ?_⟩) (by assumption) ?_
    rotate_left 2
    · simp only [List.getElem?_toArray, List.getElem?_cons_succ, List.getElem?_cons_zero]; rfl
    · rfl
    · intro w hSw; (try dsimp only at hSw); go_simp <;> with_reducible rfl
    (try simp only [Act.put, List.setIfInBounds_toArray, List.set_cons_zero, List.set_cons_succ])
    refine PX.wpAnyY_take (i := 6) (oi := ?_) (v := ?_) ?_ (by kernel_rfl) (by kernel_rfl) (by kernel_rfl) (by kernel_rfl) (by kernel_rfl) (fun _ _ _ h => h) (Or.inl ⟨?_, ?_⟩) (by assumption) ?_
    rotate_left 2
    · simp only [List.getElem?_toArray, List.getElem?_cons_succ, List.getElem?_cons_zero]; rfl
    · rfl
    · intro w hSw; (try dsimp only at hSw); have hC := fun (b o : Nat) (h : b < W0.heap.size) => Below.cell hSw (p := ⟨b, o, none⟩) h; go_simp <;> with_reducible rfl
    (try simp only [Act.put, List.setIfInBounds_toArray, List.set_cons_zero, List.set_cons_succ])
    refine PX.wpAnyY_take (i := 7) (oi := ?_) (v := ?_) ?_ (by kernel_rfl) (by kernel_rfl) (by kernel_rfl) (by kernel_rfl) (by kernel_rfl) (fun _ _ _ h => h) (Or.inl ⟨?_, ?_⟩) (by assumption) ?_
    rotate_left 2
    · simp only [List.getElem?_toArray, List.getElem?_cons_succ, List.getElem?_cons_zero]; rfl
    · rfl
    · intro w hSw; (try dsimp only at hSw); go_simp <;> with_reducible rfl
    (try simp only [Act.put, List.setIfInBounds_toArray, List.set_cons_zero, List.set_cons_succ])
    refine PX.wpAnyY_one (i := 3) (o := ?_) (by kernel_rfl) ?_ (fun Kq hKq => ?_)
    rotate_left
    · simp only [List.getElem?_toArray, List.getElem?_cons_succ, List.getElem?_cons_zero]; rfl
    go_simp
    refine (CS.out _).mono ?_
    rintro e w1 ⟨n1, rfl, hn1, bqw1⟩
    have Hw1 := Lib.hid (thence hHeld bqw1 (Nat.le_refl _))
    have HN1 := Lib.hid hn1
    clear bqw1
    go_wp2_with fail
    refine hKq.out _ _ (Hw1.out) (fun hHeld => ?_)
    clear hKq Kq
    (try simp only [Act.put, List.setIfInBounds_toArray, List.set_cons_zero, List.set_cons_succ])
    refine PX.wpAnyY_one (i := 8) (o := ?_) (by kernel_rfl) ?_ (fun Kq hKq => ?_)
    rotate_left
    · simp only [List.getElem?_toArray, List.getElem?_cons_succ, List.getElem?_cons_zero]; rfl
    go_simp
    refine (CA.out _ _ _ _ _).mono ?_
    rintro e w2 ⟨rfl, b2⟩
    have H2 := Lib.hid (thence Hw1.out b2 (Nat.le_refl _))
    clear b2
    go_wp2_with fail
    refine hKq.out _ _ (H2.out) (fun hHeld => ?_)
    clear hKq Kq
    (try simp only [Act.put, List.setIfInBounds_toArray, List.set_cons_zero, List.set_cons_succ])
    refine PX.wpAnyY_free (i := 9) (o := ?_) (by kernel_rfl) (by kernel_rfl) ?_ (fun Kq hKq => ?_)
    rotate_left
    · simp only [List.getElem?_toArray, List.getElem?_cons_succ, List.getElem?_cons_zero]; rfl
    go_simp
    refine hKq.out _ _ ?_
    clear hKq Kq
    (try simp only [Act.put, List.setIfInBounds_toArray, List.set_cons_zero, List.set_cons_succ])
    refine PX.wpAnyY_done (by kernel_rfl) ?_ _
    refine NoPanic.normal ?_
    have HQ : Hid (ask ⟨id, mem, chunk, rows, log, heads⟩ s n1 k m1 = q) := (ask_same (fun h => hn1 h) (fun h => HM2.out h)).trans HQ0.out
    rw [HQ.out]
    have B2 := Lib.hid (thence B0.out H2.out (Nat.le_refl _))
    have BX := Lib.hid (BX.out.here H2.out)
    clear hHeld hn1 HQ c0 c1 c2 c3 c4 c5
    obtain ⟨c0, c1, c2, c3, c4, c5⟩ := BX.out.six
    have hg2 := BX.out.lt
    go_wp2_with fail
    go_ret2
    exact ⟨rfl, B2.out⟩

set_option maxHeartbeats 1000000 in
theorem ref7Parity_any (id : Nat) (mem chunk rows log heads : Int) (s : Int) (w : World) :
    Calls Try.prog 17 #[.agg #[.int .u32 (id : Int), .int .i64 mem, .int .i64 chunk, .int .i64 rows, .int .i64 log, .int .i64 heads], .int .i64 s] w fun e w' => e = .returned (.tuple #[.int .i64 (if ask ⟨id, mem, chunk, rows, log, heads⟩ s (chunk * rows) 0 1 = 0 then TK.parityOf ⟨id, mem, chunk, rows, log, heads⟩ s else 0), .int .i64 ((ask ⟨id, mem, chunk, rows, log, heads⟩ s (chunk * rows) 0 1 : Nat) : Int)]) ∧ Below w.heap.size w w' := by
  have CS := Lib.hid (fun w1 => refStripes_some id mem chunk rows log heads w1)
  have CA := Lib.hid (refAsked_any id mem chunk rows log heads)
  have B0 : Hid (Below w.heap.size w (w.alloc (.cells #[.int .u32 (id : Int), .int .i64 mem, .int .i64 chunk, .int .i64 rows, .int .i64 log, .int .i64 heads] 27))) := (Below.refl _ _).alloc (Nat.le_refl _) _
  have BX := Lib.hid (Bx.new w [.int .u32 (id : Int), .int .i64 mem, .int .i64 chunk, .int .i64 rows, .int .i64 log, .int .i64 heads] 27)
  obtain ⟨q, hq0⟩ : ∃ q, ask ⟨id, mem, chunk, rows, log, heads⟩ s (chunk * rows) 0 1 = q := ⟨_, rfl⟩
  have HQ0 := Lib.hid hq0
  rw [hq0]
  by_cases g : q = 0
  · subst g
    have HA := ask_iff.1 hq0
    clear hq0
    have CT := Lib.hid (fun w1 => refOn_last id mem chunk rows log heads s (mem - 1) w1 HA.1 HA.2.1 HA.2.2.1 rfl)
    obtain ⟨k0, k1⟩ : 3 ≤ mem ∧ mem ≤ 16 := HA.1.1
    simp only [if_pos]
    clear HA
    go_enter Try.func17, Try.ntmps17
    go_wp2_with fail
    have BX : Hid (Bx (w.alloc (.cells #[.int .u32 (id : Int), .int .i64 mem, .int .i64 chunk, .int .i64 rows, .int .i64 log, .int .i64 heads] 27)) w.heap.size [.int .u32 (id : Int), .int .i64 mem, .int .i64 chunk, .int .i64 rows, .int .i64 log, .int .i64 heads]) := BX
    generalize w.alloc (.cells #[.int .u32 (id : Int), .int .i64 mem, .int .i64 chunk, .int .i64 rows, .int .i64 log, .int .i64 heads] 27) = W0 at *
    have hg := BX.out.lt
    obtain ⟨c0, c1, c2, c3, c4, c5⟩ := BX.out.six
    refine wp_region_noPanic ?_
    refine PX.wp_region_y (fun w' => Below W0.heap.size W0 w') [5] (by kernel_rfl) (Below.refl _ _).drew (fun hHeld => ?_)
    refine PX.wpAnyY_take (i := 0) (oi := ?_) (v := ?_) ?_ (by kernel_rfl) (by kernel_rfl) (by kernel_rfl) (by kernel_rfl) (by kernel_rfl) (fun _ _ _ h => h) (Or.inl ⟨?_, ?_⟩) (by assumption) ?_
    rotate_left 2
    · simp only [List.getElem?_toArray, List.getElem?_cons_succ, List.getElem?_cons_zero]; rfl
    · rfl
    · intro w hSw; (try dsimp only at hSw); have hC := fun (b o : Nat) (h : b < W0.heap.size) => Below.cell hSw (p := ⟨b, o, none⟩) h; go_simp <;> with_reducible rfl
    (try simp only [Act.put, List.setIfInBounds_toArray, List.set_cons_zero, List.set_cons_succ])
    refine PX.wpAnyY_take (i := 1) (oi := ?_) (v := ?_) ?_ (by kernel_rfl) (by kernel_rfl) (by kernel_rfl) (by kernel_rfl) (by kernel_rfl) (fun _ _ _ h => h) (Or.inl ⟨?_, ?_⟩) (by assumption) ?_
    rotate_left 2
    · simp only [List.getElem?_toArray, List.getElem?_cons_succ, List.getElem?_cons_zero]; rfl
    · rfl
    · intro w hSw; (try dsimp only at hSw); go_simp <;> with_reducible rfl
    (try simp only [Act.put, List.setIfInBounds_toArray, List.set_cons_zero, List.set_cons_succ])
    refine PX.wpAnyY_take (i := 2) (oi := ?_) (v := ?_) ?_ (by kernel_rfl) (by kernel_rfl) (by kernel_rfl) (by kernel_rfl) (by kernel_rfl) (fun _ _ _ h => h) (Or.inl ⟨?_, ?_⟩) (by assumption) ?_
    rotate_left 2
    · simp only [List.getElem?_toArray, List.getElem?_cons_succ, List.getElem?_cons_zero]; rfl
    · rfl
    · intro w hSw; (try dsimp only at hSw); have hC := fun (b o : Nat) (h : b < W0.heap.size) => Below.cell hSw (p := ⟨b, o, none⟩) h; go_simp <;> with_reducible rfl
    (try simp only [Act.put, List.setIfInBounds_toArray, List.set_cons_zero, List.set_cons_succ])
    refine PX.wpAnyY_one (i := 3) (o := ?_) (by kernel_rfl) ?_ (fun Kq hKq => ?_)
    rotate_left
    · simp only [List.getElem?_toArray, List.getElem?_cons_succ, List.getElem?_cons_zero]; rfl
    go_simp
    refine (CS.out _).mono ?_
    rintro e w1 ⟨n1, rfl, hn1, bqw1⟩
    have Hw1 := Lib.hid (thence hHeld bqw1 (Nat.le_refl _))
    have HN1 := Lib.hid hn1
    clear bqw1
    go_wp2_with fail
    refine hKq.out _ _ (Hw1.out) (fun hHeld => ?_)
    clear hKq Kq
    (try simp only [Act.put, List.setIfInBounds_toArray, List.set_cons_zero, List.set_cons_succ])
    refine PX.wpAnyY_one (i := 4) (o := ?_) (by kernel_rfl) ?_ (fun Kq hKq => ?_)
    rotate_left
    · simp only [List.getElem?_toArray, List.getElem?_cons_succ, List.getElem?_cons_zero]; rfl
    go_simp
    refine (CA.out _ _ _ _ _).mono ?_
    rintro e w2 ⟨rfl, b2⟩
    have H2 := Lib.hid (thence Hw1.out b2 (Nat.le_refl _))
    clear b2
    go_wp2_with fail
    refine hKq.out _ _ (H2.out) (fun hHeld => ?_)
    clear hKq Kq
    (try simp only [Act.put, List.setIfInBounds_toArray, List.set_cons_zero, List.set_cons_succ])
    refine PX.wpAnyY_free (i := 5) (o := ?_) (by kernel_rfl) (by kernel_rfl) ?_ (fun Kq hKq => ?_)
    rotate_left
    · simp only [List.getElem?_toArray, List.getElem?_cons_succ, List.getElem?_cons_zero]; rfl
    go_simp
    refine hKq.out _ _ ?_
    clear hKq Kq
    (try simp only [Act.put, List.setIfInBounds_toArray, List.set_cons_zero, List.set_cons_succ])
    refine PX.wpAnyY_done (by kernel_rfl) ?_ _
    refine NoPanic.normal ?_
    have HQ : Hid (ask ⟨id, mem, chunk, rows, log, heads⟩ s n1 0 1 = 0) := (ask_same (fun h => hn1 h) (fun h => rfl)).trans HQ0.out
    rw [HQ.out]
    have B2 := Lib.hid (thence B0.out H2.out (Nat.le_refl _))
    have BX := Lib.hid (BX.out.here H2.out)
    clear hHeld hn1 HQ c0 c1 c2 c3 c4 c5
    obtain ⟨c0, c1, c2, c3, c4, c5⟩ := BX.out.six
    have hg2 := BX.out.lt
    go_wp2_with fail
    refine (CT.out _).mono ?_
    rintro e w3 ⟨rfl, b3⟩
    have B3 := Lib.hid (thence B2.out b3 (Nat.le_refl _))
    clear b3
    go_wp2_with fail
    go_ret2
    exact ⟨rfl, B3.out⟩
  · have e0 : ((q : Int) == 0) = false := beq_eq_false_iff_ne.2 (by omega)
    have e1 : ((q : Int) != 0) = true := by rw [bne, e0]; rfl
    simp only [if_neg g]
    clear hq0 g
    go_enter Try.func17, Try.ntmps17
    go_wp2_with fail
    have BX : Hid (Bx (w.alloc (.cells #[.int .u32 (id : Int), .int .i64 mem, .int .i64 chunk, .int .i64 rows, .int .i64 log, .int .i64 heads] 27)) w.heap.size [.int .u32 (id : Int), .int .i64 mem, .int .i64 chunk, .int .i64 rows, .int .i64 log, .int .i64 heads]) := BX
    generalize w.alloc (.cells #[.int .u32 (id : Int), .int .i64 mem, .int .i64 chunk, .int .i64 rows, .int .i64 log, .int .i64 heads] 27) = W0 at *
    have hg := BX.out.lt
    obtain ⟨c0, c1, c2, c3, c4, c5⟩ := BX.out.six
    refine wp_region_noPanic ?_
    refine PX.wp_region_y (fun w' => Below W0.heap.size W0 w') [5] (by kernel_rfl) (Below.refl _ _).drew (fun hHeld => ?_)
    refine PX.wpAnyY_take (i := 0) (oi := ?_) (v := ?_) ?_ (by kernel_rfl) (by kernel_rfl) (by kernel_rfl) (by kernel_rfl) (by kernel_rfl) (fun _ _ _ h => h) (Or.inl ⟨?_, ?_⟩) (by assumption) ?_
    rotate_left 2
    · simp only [List.getElem?_toArray, List.getElem?_cons_succ, List.getElem?_cons_zero]; rfl
    · rfl
    · intro w hSw; (try dsimp only at hSw); have hC := fun (b o : Nat) (h : b < W0.heap.size) => Below.cell hSw (p := ⟨b, o, none⟩) h; go_simp <;> with_reducible rfl
    (try simp only [Act.put, List.setIfInBounds_toArray, List.set_cons_zero, List.set_cons_succ])
    refine PX.wpAnyY_take (i := 1) (oi := ?_) (v := ?_) ?_ (by kernel_rfl) (by kernel_rfl) (by kernel_rfl) (by kernel_rfl) (by kernel_rfl) (fun _ _ _ h => h) (Or.inl ⟨?_, ?_⟩) (by assumption) ?_
    rotate_left 2
    · simp only [List.getElem?_toArray, List.getElem?_cons_succ, List.getElem?_cons_zero]; rfl
    · rfl
    · intro w hSw; (try dsimp only at hSw); go_simp <;> with_reducible rfl
    (try simp only [Act.put, List.setIfInBounds_toArray, List.set_cons_zero, List.set_cons_succ])
    refine PX.wpAnyY_take (i := 2) (oi := ?_) (v := ?_) ?_ (by kernel_rfl) (by kernel_rfl) (by kernel_rfl) (by kernel_rfl) (by kernel_rfl) (fun _ _ _ h => h) (Or.inl ⟨?_, ?_⟩) (by assumption) ?_
    rotate_left 2
    · simp only [List.getElem?_toArray, List.getElem?_cons_succ, List.getElem?_cons_zero]; rfl
    · rfl
    · intro w hSw; (try dsimp only at hSw); have hC := fun (b o : Nat) (h : b < W0.heap.size) => Below.cell hSw (p := ⟨b, o, none⟩) h; go_simp <;> with_reducible rfl
    (try simp only [Act.put, List.setIfInBounds_toArray, List.set_cons_zero, List.set_cons_succ])
    refine PX.wpAnyY_one (i := 3) (o := ?_) (by kernel_rfl) ?_ (fun Kq hKq => ?_)
    rotate_left
    · simp only [List.getElem?_toArray, List.getElem?_cons_succ, List.getElem?_cons_zero]; rfl
    go_simp
    refine (CS.out _).mono ?_
    rintro e w1 ⟨n1, rfl, hn1, bqw1⟩
    have Hw1 := Lib.hid (thence hHeld bqw1 (Nat.le_refl _))
    have HN1 := Lib.hid hn1
    clear bqw1
    go_wp2_with fail
    refine hKq.out _ _ (Hw1.out) (fun hHeld => ?_)
    clear hKq Kq
    (try simp only [Act.put, List.setIfInBounds_toArray, List.set_cons_zero, List.set_cons_succ])
    refine PX.wpAnyY_one (i := 4) (o := ?_) (by kernel_rfl) ?_ (fun Kq hKq => ?_)
    rotate_left
    · simp only [List.getElem?_toArray, List.getElem?_cons_succ, List.getElem?_cons_zero]; rfl
    go_simp
    refine (CA.out _ _ _ _ _).mono ?_
    rintro e w2 ⟨rfl, b2⟩
    have H2 := Lib.hid (thence Hw1.out b2 (Nat.le_refl _))
    clear b2
    go_wp2_with fail
    refine hKq.out _ _ (H2.out) (fun hHeld => ?_)
    clear hKq Kq
    (try simp only [Act.put, List.setIfInBounds_toArray, List.set_cons_zero, List.set_cons_succ])
    refine PX.wpAnyY_free (i := 5) (o := ?_) (by kernel_rfl) (by kernel_rfl) ?_ (fun Kq hKq => ?_)
    rotate_left
    · simp only [List.getElem?_toArray, List.getElem?_cons_succ, List.getElem?_cons_zero]; rfl
    go_simp
    refine hKq.out _ _ ?_
    clear hKq Kq
    (try simp only [Act.put, List.setIfInBounds_toArray, List.set_cons_zero, List.set_cons_succ])
    refine PX.wpAnyY_done (by kernel_rfl) ?_ _
    refine NoPanic.normal ?_
    have HQ : Hid (ask ⟨id, mem, chunk, rows, log, heads⟩ s n1 0 1 = q) := (ask_same (fun h => hn1 h) (fun h => rfl)).trans HQ0.out
    rw [HQ.out]
    have B2 := Lib.hid (thence B0.out H2.out (Nat.le_refl _))
    have BX := Lib.hid (BX.out.here H2.out)
    clear hHeld hn1 HQ c0 c1 c2 c3 c4 c5
    obtain ⟨c0, c1, c2, c3, c4, c5⟩ := BX.out.six
    have hg2 := BX.out.lt
    go_wp2_with fail
    go_ret2
    exact ⟨rfl, B2.out⟩

set_option maxHeartbeats 1000000 in
theorem ref7Member_any (id : Nat) (mem chunk rows log heads : Int) (s k : Int) (w : World) :
    Calls Try.prog 18 #[.agg #[.int .u32 (id : Int), .int .i64 mem, .int .i64 chunk, .int .i64 rows, .int .i64 log, .int .i64 heads], .int .i64 s, .int .i64 k] w fun e w' => e = .returned (.tuple #[.int .i64 (if ask ⟨id, mem, chunk, rows, log, heads⟩ s (chunk * rows) k mem = 0 then TK.memberOf ⟨id, mem, chunk, rows, log, heads⟩ s k else 0), .int .i64 ((ask ⟨id, mem, chunk, rows, log, heads⟩ s (chunk * rows) k mem : Nat) : Int)]) ∧ Below w.heap.size w w' := by
  have CS := Lib.hid (fun w1 => refStripes_some id mem chunk rows log heads w1)
  have CA := Lib.hid (refAsked_any id mem chunk rows log heads)
  have B0 : Hid (Below w.heap.size w (w.alloc (.cells #[.int .u32 (id : Int), .int .i64 mem, .int .i64 chunk, .int .i64 rows, .int .i64 log, .int .i64 heads] 27))) := (Below.refl _ _).alloc (Nat.le_refl _) _
  have BX := Lib.hid (Bx.new w [.int .u32 (id : Int), .int .i64 mem, .int .i64 chunk, .int .i64 rows, .int .i64 log, .int .i64 heads] 27)
  obtain ⟨q, hq0⟩ : ∃ q, ask ⟨id, mem, chunk, rows, log, heads⟩ s (chunk * rows) k mem = q := ⟨_, rfl⟩
  have HQ0 := Lib.hid hq0
  rw [hq0]
  by_cases g : q = 0
  · subst g
    have HA := ask_iff.1 hq0
    clear hq0
    have CT := Lib.hid (fun w1 => refOn_any id mem chunk rows log heads s k w1 HA.1 HA.2.1 HA.2.2.1 HA.2.2.2.1 HA.2.2.2.2)
    simp only [if_pos]
    clear HA
    go_enter Try.func18, Try.ntmps18
    go_wp2_with fail
    have BX : Hid (Bx (w.alloc (.cells #[.int .u32 (id : Int), .int .i64 mem, .int .i64 chunk, .int .i64 rows, .int .i64 log, .int .i64 heads] 27)) w.heap.size [.int .u32 (id : Int), .int .i64 mem, .int .i64 chunk, .int .i64 rows, .int .i64 log, .int .i64 heads]) := BX
    generalize w.alloc (.cells #[.int .u32 (id : Int), .int .i64 mem, .int .i64 chunk, .int .i64 rows, .int .i64 log, .int .i64 heads] 27) = W0 at *
    have hg := BX.out.lt
    obtain ⟨c0, c1, c2, c3, c4, c5⟩ := BX.out.six
    refine wp_region_noPanic ?_
    refine PX.wp_region_y (fun w' => Below W0.heap.size W0 w') [8] (by kernel_rfl) (Below.refl _ _).drew (fun hHeld => ?_)
    refine PX.wpAnyY_take (i := 0) (oi := ?_) (v := ?_) ?_ (by kernel_rfl) (by kernel_rfl) (by kernel_rfl) (by kernel_rfl) (by kernel_rfl) (fun _ _ _ h => h) (Or.inl ⟨?_, ?_⟩) (by assumption) ?_
    rotate_left 2
    · simp only [List.getElem?_toArray, List.getElem?_cons_succ, List.getElem?_cons_zero]; rfl
    · rfl
    · intro w hSw; (try dsimp only at hSw); have hC := fun (b o : Nat) (h : b < W0.heap.size) => Below.cell hSw (p := ⟨b, o, none⟩) h; go_simp <;> with_reducible rfl
    (try simp only [Act.put, List.setIfInBounds_toArray, List.set_cons_zero, List.set_cons_succ])
    refine PX.wpAnyY_take (i := 1) (oi := ?_) (v := ?_) ?_ (by kernel_rfl) (by kernel_rfl) (by kernel_rfl) (by kernel_rfl) (by kernel_rfl) (fun _ _ _ h => h) (Or.inl ⟨?_, ?_⟩) (by assumption) ?_
    rotate_left 2
    · simp only [List.getElem?_toArray, List.getElem?_cons_succ, List.getElem?_cons_zero]; rfl
    · rfl
    · intro w hSw; (try dsimp only at hSw); go_simp <;> with_reducible rfl
    (try simp only [Act.put, List.setIfInBounds_toArray, List.set_cons_zero, List.set_cons_succ])
    refine PX.wpAnyY_take (i := 2) (oi := ?_) (v := ?_) ?_ (by kernel_rfl) (by kernel_rfl) (by kernel_rfl) (by kernel_rfl) (by kernel_rfl) (fun _ _ _ h => h) (Or.inl ⟨?_, ?_⟩) (by assumption) ?_
    rotate_left 2
    · simp only [List.getElem?_toArray, List.getElem?_cons_succ, List.getElem?_cons_zero]; rfl
    · rfl
    · intro w hSw; (try dsimp only at hSw); have hC := fun (b o : Nat) (h : b < W0.heap.size) => Below.cell hSw (p := ⟨b, o, none⟩) h; go_simp <;> with_reducible rfl
    (try simp only [Act.put, List.setIfInBounds_toArray, List.set_cons_zero, List.set_cons_succ])
    refine PX.wpAnyY_take (i := 4) (oi := ?_) (v := ?_) ?_ (by kernel_rfl) (by kernel_rfl) (by kernel_rfl) (by kernel_rfl) (by kernel_rfl) (fun _ _ _ h => h) (Or.inl ⟨?_, ?_⟩) (by assumption) ?_
    rotate_left 2
    · simp only [List.getElem?_toArray, List.getElem?_cons_succ, List.getElem?_cons_zero]; rfl
    · rfl
    · intro w hSw; (try dsimp only at hSw); go_simp <;> with_reducible rfl
    (try simp only [Act.put, List.setIfInBounds_toArray, List.set_cons_zero, List.set_cons_succ])
    refine PX.wpAnyY_take (i := 5) (oi := ?_) (v := ?_) ?_ (by kernel_rfl) (by kernel_rfl) (by kernel_rfl) (by kernel_rfl) (by kernel_rfl) (fun _ _ _ h => h) (Or.inl ⟨?_, ?_⟩) (by assumption) ?_
    rotate_left 2
    · simp only [List.getElem?_toArray, List.getElem?_cons_succ, List.getElem?_cons_zero]; rfl
    · rfl
    · intro w hSw; (try dsimp only at hSw); go_simp <;> with_reducible rfl
    (try simp only [Act.put, List.setIfInBounds_toArray, List.set_cons_zero, List.set_cons_succ])
    refine PX.wpAnyY_take (i := 6) (oi := ?_) (v := ?_) ?_ (by kernel_rfl) (by kernel_rfl) (by kernel_rfl) (by kernel_rfl) (by kernel_rfl) (fun _ _ _ h => h) (Or.inl ⟨?_, ?_⟩) (by assumption) ?_
    rotate_left 2
    · simp only [List.getElem?_toArray, List.getElem?_cons_succ, List.getElem?_cons_zero]; rfl
    · rfl
    · intro w hSw; (try dsimp only at hSw); have hC := fun (b o : Nat) (h : b < W0.heap.size) => Below.cell hSw (p := ⟨b, o, none⟩) h; go_simp <;> with_reducible rfl
    (try simp only [Act.put, List.setIfInBounds_toArray, List.set_cons_zero, List.set_cons_succ])
    refine PX.wpAnyY_one (i := 3) (o := ?_) (by kernel_rfl) ?_ (fun Kq hKq => ?_)
    rotate_left
    · simp only [List.getElem?_toArray, List.getElem?_cons_succ, List.getElem?_cons_zero]; rfl
    go_simp
    refine (CS.out _).mono ?_
    rintro e w1 ⟨n1, rfl, hn1, bqw1⟩
    have Hw1 := Lib.hid (thence hHeld bqw1 (Nat.le_refl _))
    have HN1 := Lib.hid hn1
    clear bqw1
    go_wp2_with fail
    refine hKq.out _ _ (Hw1.out) (fun hHeld => ?_)
    clear hKq Kq
    (try simp only [Act.put, List.setIfInBounds_toArray, List.set_cons_zero, List.set_cons_succ])
    refine PX.wpAnyY_one (i := 7) (o := ?_) (by kernel_rfl) ?_ (fun Kq hKq => ?_)
    rotate_left
    · simp only [List.getElem?_toArray, List.getElem?_cons_succ, List.getElem?_cons_zero]; rfl
    go_simp
    refine (CA.out _ _ _ _ _).mono ?_
    rintro e w2 ⟨rfl, b2⟩
    have H2 := Lib.hid (thence Hw1.out b2 (Nat.le_refl _))
    clear b2
    go_wp2_with fail
    refine hKq.out _ _ (H2.out) (fun hHeld => ?_)
    clear hKq Kq
    (try simp only [Act.put, List.setIfInBounds_toArray, List.set_cons_zero, List.set_cons_succ])
    refine PX.wpAnyY_free (i := 8) (o := ?_) (by kernel_rfl) (by kernel_rfl) ?_ (fun Kq hKq => ?_)
    rotate_left
    · simp only [List.getElem?_toArray, List.getElem?_cons_succ, List.getElem?_cons_zero]; rfl
    go_simp
    refine hKq.out _ _ ?_
    clear hKq Kq
    (try simp only [Act.put, List.setIfInBounds_toArray, List.set_cons_zero, List.set_cons_succ])
    refine PX.wpAnyY_done (by kernel_rfl) ?_ _
    refine NoPanic.normal ?_
    have HQ : Hid (ask ⟨id, mem, chunk, rows, log, heads⟩ s n1 k mem = 0) := (ask_same (fun h => hn1 h) (fun h => rfl)).trans HQ0.out
    rw [HQ.out]
    have B2 := Lib.hid (thence B0.out H2.out (Nat.le_refl _))
    have BX := Lib.hid (BX.out.here H2.out)
    clear hHeld hn1 HQ c0 c1 c2 c3 c4 c5
    obtain ⟨c0, c1, c2, c3, c4, c5⟩ := BX.out.six
    have hg2 := BX.out.lt
    go_wp2_with fail
    refine (CT.out _).mono ?_
    rintro e w3 ⟨rfl, b3⟩
    have B3 := Lib.hid (thence B2.out b3 (Nat.le_refl _))
    clear b3
    go_wp2_with fail
    go_ret2
    exact ⟨rfl, B3.out⟩
  · have e0 : ((q : Int) == 0) = false := beq_eq_false_iff_ne.2 (by omega)
    have e1 : ((q : Int) != 0) = true := by rw [bne, e0]; rfl
    simp only [if_neg g]
    clear hq0 g
    go_enter Try.func18, Try.ntmps18
    go_wp2_with fail
    have BX : Hid (Bx (w.alloc (.cells #[.int .u32 (id : Int), .int .i64 mem, .int .i64 chunk, .int .i64 rows, .int .i64 log, .int .i64 heads] 27)) w.heap.size [.int .u32 (id : Int), .int .i64 mem, .int .i64 chunk, .int .i64 rows, .int .i64 log, .int .i64 heads]) := BX
    generalize w.alloc (.cells #[.int .u32 (id : Int), .int .i64 mem, .int .i64 chunk, .int .i64 rows, .int .i64 log, .int .i64 heads] 27) = W0 at *
    have hg := BX.out.lt
    obtain ⟨c0, c1, c2, c3, c4, c5⟩ := BX.out.six
    refine wp_region_noPanic ?_
    refine PX.wp_region_y (fun w' => Below W0.heap.size W0 w') [8] (by kernel_rfl) (Below.refl _ _).drew (fun hHeld => ?_)
    refine PX.wpAnyY_take (i := 0) (oi := ?_) (v := ?_) ?_ (by kernel_rfl) (by kernel_rfl) (by kernel_rfl) (by kernel_rfl) (by kernel_rfl) (fun _ _ _ h => h) (Or.inl ⟨?_, ?_⟩) (by assumption) ?_
    rotate_left 2
    · simp only [List.getElem?_toArray, List.getElem?_cons_succ, List.getElem?_cons_zero]; rfl
    · rfl
    · intro w hSw; (try dsimp only at hSw); have hC := fun (b o : Nat) (h : b < W0.heap.size) => Below.cell hSw (p := ⟨b, o, none⟩) h; go_simp <;> with_reducible rfl
    (try simp only [Act.put, List.setIfInBounds_toArray, List.set_cons_zero, List.set_cons_succ])
    refine PX.wpAnyY_take (i := 1) (oi := ?_) (v := ?_) ?_ (by kernel_rfl) (by kernel_rfl) (by kernel_rfl) (by kernel_rfl) (by kernel_rfl) (fun _ _ _ h => h) (Or.inl ⟨?_, ?_⟩) (by assumption) ?_
    rotate_left 2
    · simp only [List.getElem?_toArray, List.getElem?_cons_succ, List.getElem?_cons_zero]; rfl
    · rfl
    · intro w hSw; (try dsimp only at hSw); go_simp <;> with_reducible rfl
    (try simp only [Act.put, List.setIfInBounds_toArray, List.set_cons_zero, List.set_cons_succ])
    refine PX.wpAnyY_take (i := 2) (oi := ?_) (v := ?_) ?_ (by kernel_rfl) (by kernel_rfl) (by kernel_rfl) (by kernel_rfl) (by kernel_rfl) (fun _ _ _ h => h) (Or.inl ⟨?_, ?_⟩) (by assumption) ?_
    rotate_left 2
    · simp only [List.getElem?_toArray, List.getElem?_cons_succ, List.getElem?_cons_zero]; rfl
    · rfl
    · intro w hSw; (try dsimp only at hSw); have hC := fun (b o : Nat) (h : b < W0.heap.size) => Below.cell hSw (p := ⟨b, o, none⟩) h; go_simp <;> with_reducible rfl
    (try simp only [Act.put, List.setIfInBounds_toArray, List.set_cons_zero, List.set_cons_succ])
    refine PX.wpAnyY_take (i := 4) (oi := ?_) (v := ?_) ?_ (by kernel_rfl) (by kernel_rfl) (by kernel_rfl) (by kernel_rfl) (by kernel_rfl) (fun _ _ _ h => h) (Or.inl ⟨?_, ?_⟩) (by assumption) ?_
    rotate_left 2
    · simp only [List.getElem?_toArray, List.getElem?_cons_succ, List.getElem?_cons_zero]; rfl
    · rfl
    · intro w hSw; (try dsimp only at hSw); go_simp <;> with_reducible rfl
    (try simp only [Act.put, List.setIfInBounds_toArray, List.set_cons_zero, List.set_cons_succ])
    refine PX.wpAnyY_take (i := 5) (oi := ?_) (v := ?_) ?_ (by kernel_rfl) (by kernel_rfl) (by kernel_rfl) (by kernel_rfl) (by kernel_rfl) (fun _ _ _ h => h) (Or.inl ⟨?_, ?_⟩) (by assumption) ?_
    rotate_left 2
    · simp only [List.getElem?_toArray, List.getElem?_cons_succ, List.getElem?_cons_zero]; rfl
    · rfl
    · intro w hSw; (try dsimp only at hSw); go_simp <;> with_reducible rfl
    (try simp only [Act.put, List.setIfInBounds_toArray, List.set_cons_zero, List.set_cons_succ])
    refine PX.wpAnyY_take (i := 6) (oi := ?_) (v := ?_) ?_ (by kernel_rfl) (by kernel_rfl) (by kernel_rfl) (by kernel_rfl) (by kernel_rfl) (fun _ _ _ h => h) (Or.inl ⟨?_, ?_⟩) (by assumption) ?_
    rotate_left 2
    · simp only [List.getElem?_toArray, List.getElem?_cons_succ, List.getElem?_cons_zero]; rfl
    · rfl
    · intro w hSw; (try dsimp only at hSw); have hC := fun (b o : Nat) (h : b < W0.heap.size) => Below.cell hSw (p := ⟨b, o, none⟩) h; go_simp <;> with_reducible rfl
    (try simp only [Act.put, List.setIfInBounds_toArray, List.set_cons_zero, List.set_cons_succ])
    refine PX.wpAnyY_one (i := 3) (o := ?_) (by kernel_rfl) ?_ (fun Kq hKq => ?_)
    rotate_left
    · simp only [List.getElem?_toArray, List.getElem?_cons_succ, List.getElem?_cons_zero]; rfl
    go_simp
    refine (CS.out _).mono ?_
    rintro e w1 ⟨n1, rfl, hn1, bqw1⟩
    have Hw1 := Lib.hid (thence hHeld bqw1 (Nat.le_refl _))
    have HN1 := Lib.hid hn1
    clear bqw1
    go_wp2_with fail
    refine hKq.out _ _ (Hw1.out) (fun hHeld => ?_)
    clear hKq Kq
    (try simp only [Act.put, List.setIfInBounds_toArray, List.set_cons_zero, List.set_cons_succ])
    refine PX.wpAnyY_one (i := 7) (o := ?_) (by kernel_rfl) ?_ (fun Kq hKq => ?_)
    rotate_left
    · simp only [List.getElem?_toArray, List.getElem?_cons_succ, List.getElem?_cons_zero]; rfl
    go_simp
    refine (CA.out _ _ _ _ _).mono ?_
    rintro e w2 ⟨rfl, b2⟩
    have H2 := Lib.hid (thence Hw1.out b2 (Nat.le_refl _))
    clear b2
    go_wp2_with fail
    refine hKq.out _ _ (H2.out) (fun hHeld => ?_)
    clear hKq Kq
    (try simp only [Act.put, List.setIfInBounds_toArray, List.set_cons_zero, List.set_cons_succ])
    refine PX.wpAnyY_free (i := 8) (o := ?_) (by kernel_rfl) (by kernel_rfl) ?_ (fun Kq hKq => ?_)
    rotate_left
    · simp only [List.getElem?_toArray, List.getElem?_cons_succ, List.getElem?_cons_zero]; rfl
    go_simp
    refine hKq.out _ _ ?_
    clear hKq Kq
    (try simp only [Act.put, List.setIfInBounds_toArray, List.set_cons_zero, List.set_cons_succ])
    refine PX.wpAnyY_done (by kernel_rfl) ?_ _
    refine NoPanic.normal ?_
    have HQ : Hid (ask ⟨id, mem, chunk, rows, log, heads⟩ s n1 k mem = q) := (ask_same (fun h => hn1 h) (fun h => rfl)).trans HQ0.out
    rw [HQ.out]
    have B2 := Lib.hid (thence B0.out H2.out (Nat.le_refl _))
    have BX := Lib.hid (BX.out.here H2.out)
    clear hHeld hn1 HQ c0 c1 c2 c3 c4 c5
    obtain ⟨c0, c1, c2, c3, c4, c5⟩ := BX.out.six
    have hg2 := BX.out.lt
    go_wp2_with fail
    go_ret2
    exact ⟨rfl, B2.out⟩

set_option maxHeartbeats 1000000 in
theorem ref7Slot_any (id : Nat) (mem chunk rows log heads : Int) (s m : Int) (w : World) :
    Calls Try.prog 19 #[.agg #[.int .u32 (id : Int), .int .i64 mem, .int .i64 chunk, .int .i64 rows, .int .i64 log, .int .i64 heads], .int .i64 s, .int .i64 m] w fun e w' => e = .returned (.tuple #[.int .i64 (if ask ⟨id, mem, chunk, rows, log, heads⟩ s (chunk * rows) m mem = 0 then TK.slotOf ⟨id, mem, chunk, rows, log, heads⟩ s m else 0), .int .i64 ((ask ⟨id, mem, chunk, rows, log, heads⟩ s (chunk * rows) m mem : Nat) : Int)]) ∧ Below w.heap.size w w' := by
  have CS := Lib.hid (fun w1 => refStripes_some id mem chunk rows log heads w1)
  have CA := Lib.hid (refAsked_any id mem chunk rows log heads)
  have B0 : Hid (Below w.heap.size w (w.alloc (.cells #[.int .u32 (id : Int), .int .i64 mem, .int .i64 chunk, .int .i64 rows, .int .i64 log, .int .i64 heads] 27))) := (Below.refl _ _).alloc (Nat.le_refl _) _
  have BX := Lib.hid (Bx.new w [.int .u32 (id : Int), .int .i64 mem, .int .i64 chunk, .int .i64 rows, .int .i64 log, .int .i64 heads] 27)
  obtain ⟨q, hq0⟩ : ∃ q, ask ⟨id, mem, chunk, rows, log, heads⟩ s (chunk * rows) m mem = q := ⟨_, rfl⟩
  have HQ0 := Lib.hid hq0
  rw [hq0]
  by_cases g : q = 0
  · subst g
    have HA := ask_iff.1 hq0
    clear hq0
    have CT := Lib.hid (fun w1 => refIn_slot id mem chunk rows log heads s m w1 HA.1 HA.2.1 HA.2.2.1 HA.2.2.2.1 HA.2.2.2.2)
    simp only [if_pos]
    clear HA
    go_enter Try.func19, Try.ntmps19
    go_wp2_with fail
    have BX : Hid (Bx (w.alloc (.cells #[.int .u32 (id : Int), .int .i64 mem, .int .i64 chunk, .int .i64 rows, .int .i64 log, .int .i64 heads] 27)) w.heap.size [.int .u32 (id : Int), .int .i64 mem, .int .i64 chunk, .int .i64 rows, .int .i64 log, .int .i64 heads]) := BX
    generalize w.alloc (.cells #[.int .u32 (id : Int), .int .i64 mem, .int .i64 chunk, .int .i64 rows, .int .i64 log, .int .i64 heads] 27) = W0 at *
    have hg := BX.out.lt
    obtain ⟨c0, c1, c2, c3, c4, c5⟩ := BX.out.six
    refine wp_region_noPanic ?_
    refine PX.wp_region_y (fun w' => Below W0.heap.size W0 w') [8] (by kernel_rfl) (Below.refl _ _).drew (fun hHeld => ?_)
    refine PX.wpAnyY_take (i := 0) (oi := ?_) (v := ?_) ?_ (by kernel_rfl) (by kernel_rfl) (by kernel_rfl) (by kernel_rfl) (by kernel_rfl) (fun _ _ _ h => h) (Or.inl ⟨?_, ?_⟩) (by assumption) ?_
    rotate_left 2
    · simp only [List.getElem?_toArray, List.getElem?_cons_succ, List.getElem?_cons_zero]; rfl
    · rfl
    · intro w hSw; (try dsimp only at hSw); have hC := fun (b o : Nat) (h : b < W0.heap.size) => Below.cell hSw (p := ⟨b, o, none⟩) h; go_simp <;> with_reducible rfl
    (try simp only [Act.put, List.setIfInBounds_toArray, List.set_cons_zero, List.set_cons_succ])
    refine PX.wpAnyY_take (i := 1) (oi := ?_) (v := ?_) ?_ (by kernel_rfl) (by kernel_rfl) (by kernel_rfl) (by kernel_rfl) (by kernel_rfl) (fun _ _ _ h => h) (Or.inl ⟨?_, ?_⟩) (by assumption) ?_
    rotate_left 2
    · simp only [List.getElem?_toArray, List.getElem?_cons_succ, List.getElem?_cons_zero]; rfl
    · rfl
    · intro w hSw; (try dsimp only at hSw); go_simp <;> with_reducible rfl
    (try simp only [Act.put, List.setIfInBounds_toArray, List.set_cons_zero, List.set_cons_succ])
    refine PX.wpAnyY_take (i := 2) (oi := ?_) (v := ?_) ?_ (by kernel_rfl) (by kernel_rfl) (by kernel_rfl) (by kernel_rfl) (by kernel_rfl) (fun _ _ _ h => h) (Or.inl ⟨?_, ?_⟩) (by assumption) ?_
    rotate_left 2
    · simp only [List.getElem?_toArray, List.getElem?_cons_succ, List.getElem?_cons_zero]; rfl
    · rfl
    · intro w hSw; (try dsimp only at hSw); have hC := fun (b o : Nat) (h : b < W0.heap.size) => Below.cell hSw (p := ⟨b, o, none⟩) h; go_simp <;> with_reducible rfl
    (try simp only [Act.put, List.setIfInBounds_toArray, List.set_cons_zero, List.set_cons_succ])
    refine PX.wpAnyY_take (i := 4) (oi := ?_) (v := ?_) ?_ (by kernel_rfl) (by kernel_rfl) (by kernel_rfl) (by kernel_rfl) (by kernel_rfl) (fun _ _ _ h => h) (Or.inl ⟨?_, ?_⟩) (by assumption) ?_
    rotate_left 2
    · simp only [List.getElem?_toArray, List.getElem?_cons_succ, List.getElem?_cons_zero]; rfl
    · rfl
    · intro w hSw; (try dsimp only at hSw); go_simp <;> with_reducible rfl
    (try simp only [Act.put, List.setIfInBounds_toArray, List.set_cons_zero, List.set_cons_succ])
    refine PX.wpAnyY_take (i := 5) (oi := ?_) (v := ?_) ?_ (by kernel_rfl) (by kernel_rfl) (by kernel_rfl) (by kernel_rfl) (by kernel_rfl) (fun _ _ _ h => h) (Or.inl ⟨?_, ?_⟩) (by assumption) ?_
    rotate_left 2
    · simp only [List.getElem?_toArray, List.getElem?_cons_succ, List.getElem?_cons_zero]; rfl
    · rfl
    · intro w hSw; (try dsimp only at hSw); go_simp <;> with_reducible rfl
    (try simp only [Act.put, List.setIfInBounds_toArray, List.set_cons_zero, List.set_cons_succ])
    refine PX.wpAnyY_take (i := 6) (oi := ?_) (v := ?_) ?_ (by kernel_rfl) (by kernel_rfl) (by kernel_rfl) (by kernel_rfl) (by kernel_rfl) (fun _ _ _ h => h) (Or.inl ⟨?_, ?_⟩) (by assumption) ?_
    rotate_left 2
    · simp only [List.getElem?_toArray, List.getElem?_cons_succ, List.getElem?_cons_zero]; rfl
    · rfl
    · intro w hSw; (try dsimp only at hSw); have hC := fun (b o : Nat) (h : b < W0.heap.size) => Below.cell hSw (p := ⟨b, o, none⟩) h; go_simp <;> with_reducible rfl
    (try simp only [Act.put, List.setIfInBounds_toArray, List.set_cons_zero, List.set_cons_succ])
    refine PX.wpAnyY_one (i := 3) (o := ?_) (by kernel_rfl) ?_ (fun Kq hKq => ?_)
    rotate_left
    · simp only [List.getElem?_toArray, List.getElem?_cons_succ, List.getElem?_cons_zero]; rfl
    go_simp
    refine (CS.out _).mono ?_
    rintro e w1 ⟨n1, rfl, hn1, bqw1⟩
    have Hw1 := Lib.hid (thence hHeld bqw1 (Nat.le_refl _))
    have HN1 := Lib.hid hn1
    clear bqw1
    go_wp2_with fail
    refine hKq.out _ _ (Hw1.out) (fun hHeld => ?_)
    clear hKq Kq
    (try simp only [Act.put, List.setIfInBounds_toArray, List.set_cons_zero, List.set_cons_succ])
    refine PX.wpAnyY_one (i := 7) (o := ?_) (by kernel_rfl) ?_ (fun Kq hKq => ?_)
    rotate_left
    · simp only [List.getElem?_toArray, List.getElem?_cons_succ, List.getElem?_cons_zero]; rfl
    go_simp
    refine (CA.out _ _ _ _ _).mono ?_
    rintro e w2 ⟨rfl, b2⟩
    have H2 := Lib.hid (thence Hw1.out b2 (Nat.le_refl _))
    clear b2
    go_wp2_with fail
    refine hKq.out _ _ (H2.out) (fun hHeld => ?_)
    clear hKq Kq
    (try simp only [Act.put, List.setIfInBounds_toArray, List.set_cons_zero, List.set_cons_succ])
    refine PX.wpAnyY_free (i := 8) (o := ?_) (by kernel_rfl) (by kernel_rfl) ?_ (fun Kq hKq => ?_)
    rotate_left
    · simp only [List.getElem?_toArray, List.getElem?_cons_succ, List.getElem?_cons_zero]; rfl
    go_simp
    refine hKq.out _ _ ?_
    clear hKq Kq
    (try simp only [Act.put, List.setIfInBounds_toArray, List.set_cons_zero, List.set_cons_succ])
    refine PX.wpAnyY_done (by kernel_rfl) ?_ _
    refine NoPanic.normal ?_
    have HQ : Hid (ask ⟨id, mem, chunk, rows, log, heads⟩ s n1 m mem = 0) := (ask_same (fun h => hn1 h) (fun h => rfl)).trans HQ0.out
    rw [HQ.out]
    have B2 := Lib.hid (thence B0.out H2.out (Nat.le_refl _))
    have BX := Lib.hid (BX.out.here H2.out)
    clear hHeld hn1 HQ c0 c1 c2 c3 c4 c5
    obtain ⟨c0, c1, c2, c3, c4, c5⟩ := BX.out.six
    have hg2 := BX.out.lt
    go_wp2_with fail
    refine (CT.out _).mono ?_
    rintro e w3 ⟨rfl, b3⟩
    have B3 := Lib.hid (thence B2.out b3 (Nat.le_refl _))
    clear b3
    go_wp2_with fail
    go_ret2
    exact ⟨rfl, B3.out⟩
  · have e0 : ((q : Int) == 0) = false := beq_eq_false_iff_ne.2 (by omega)
    have e1 : ((q : Int) != 0) = true := by rw [bne, e0]; rfl
    simp only [if_neg g]
    clear hq0 g
    go_enter Try.func19, Try.ntmps19
    go_wp2_with fail
    have BX : Hid (Bx (w.alloc (.cells #[.int .u32 (id : Int), .int .i64 mem, .int .i64 chunk, .int .i64 rows, .int .i64 log, .int .i64 heads] 27)) w.heap.size [.int .u32 (id : Int), .int .i64 mem, .int .i64 chunk, .int .i64 rows, .int .i64 log, .int .i64 heads]) := BX
    generalize w.alloc (.cells #[.int .u32 (id : Int), .int .i64 mem, .int .i64 chunk, .int .i64 rows, .int .i64 log, .int .i64 heads] 27) = W0 at *
    have hg := BX.out.lt
    obtain ⟨c0, c1, c2, c3, c4, c5⟩ := BX.out.six
    refine wp_region_noPanic ?_
    refine PX.wp_region_y (fun w' => Below W0.heap.size W0 w') [8] (by kernel_rfl) (Below.refl _ _).drew (fun hHeld => ?_)
    refine PX.wpAnyY_take (i := 0) (oi := ?_) (v := ?_) ?_ (by kernel_rfl) (by kernel_rfl) (by kernel_rfl) (by kernel_rfl) (by kernel_rfl) (fun _ _ _ h => h) (Or.inl ⟨?_, ?_⟩) (by assumption) ?_
    rotate_left 2
    · simp only [List.getElem?_toArray, List.getElem?_cons_succ, List.getElem?_cons_zero]; rfl
    · rfl
    · intro w hSw; (try dsimp only at hSw); have hC := fun (b o : Nat) (h : b < W0.heap.size) => Below.cell hSw (p := ⟨b, o, none⟩) h; go_simp <;> with_reducible rfl
    (try simp only [Act.put, List.setIfInBounds_toArray, List.set_cons_zero, List.set_cons_succ])
    refine PX.wpAnyY_take (i := 1) (oi := ?_) (v := ?_) ?_ (by kernel_rfl) (by kernel_rfl) (by kernel_rfl) (by kernel_rfl) (by kernel_rfl) (fun _ _ _ h => h) (Or.inl ⟨?_, ?_⟩) (by assumption) ?_
    rotate_left 2
    · simp only [List.getElem?_toArray, List.getElem?_cons_succ, List.getElem?_cons_zero]; rfl
    · rfl
    · intro w hSw; (try dsimp only at hSw); go_simp <;> with_reducible rfl
    (try simp only [Act.put, List.setIfInBounds_toArray, List.set_cons_zero, List.set_cons_succ])
    refine PX.wpAnyY_take (i := 2) (oi := ?_) (v := ?_) ?_ (by kernel_rfl) (by kernel_rfl) (by kernel_rfl) (by kernel_rfl) (by kernel_rfl) (fun _ _ _ h => h) (Or.inl ⟨?_, ?_⟩) (by assumption) ?_
    rotate_left 2
    · simp only [List.getElem?_toArray, List.getElem?_cons_succ, List.getElem?_cons_zero]; rfl
    · rfl
    · intro w hSw; (try dsimp only at hSw); have hC := fun (b o : Nat) (h : b < W0.heap.size) => Below.cell hSw (p := ⟨b, o, none⟩) h; go_simp <;> with_reducible rfl
    (try simp only [Act.put, List.setIfInBounds_toArray, List.set_cons_zero, List.set_cons_succ])
    refine PX.wpAnyY_take (i := 4) (oi := ?_) (v := ?_) ?_ (by kernel_rfl) (by kernel_rfl) (by kernel_rfl) (by kernel_rfl) (by kernel_rfl) (fun _ _ _ h => h) (Or.inl ⟨?_, ?_⟩) (by assumption) ?_
    rotate_left 2
    · simp only [List.getElem?_toArray, List.getElem?_cons_succ, List.getElem?_cons_zero]; rfl
    · rfl
    · intro w hSw; (try dsimp only at hSw); go_simp <;> with_reducible rfl
    (try simp only [Act.put, List.setIfInBounds_toArray, List.set_cons_zero, List.set_cons_succ])
    refine PX.wpAnyY_take (i := 5) (oi := ?_) (v := ?_) ?_ (by kernel_rfl) (by kernel_rfl) (by kernel_rfl) (by kernel_rfl) (by kernel_rfl) (fun _ _ _ h => h) (Or.inl ⟨?_, ?_⟩) (by assumption) ?_
    rotate_left 2
    · simp only [List.getElem?_toArray, List.getElem?_cons_succ, List.getElem?_cons_zero]; rfl
    · rfl
    · intro w hSw; (try dsimp only at hSw); go_simp <;> with_reducible rfl
    (try simp only [Act.put, List.setIfInBounds_toArray, List.set_cons_zero, List.set_cons_succ])
    refine PX.wpAnyY_take (i := 6) (oi := ?_) (v := ?_) ?_ (by kernel_rfl) (by kernel_rfl) (by kernel_rfl) (by kernel_rfl) (by kernel_rfl) (fun _ _ _ h => h) (Or.inl ⟨?_, ?_⟩) (by assumption) ?_
    rotate_left 2
    · simp only [List.getElem?_toArray, List.getElem?_cons_succ, List.getElem?_cons_zero]; rfl
    · rfl
    · intro w hSw; (try dsimp only at hSw); have hC := fun (b o : Nat) (h : b < W0.heap.size) => Below.cell hSw (p := ⟨b, o, none⟩) h; go_simp <;> with_reducible rfl
    (try simp only [Act.put, List.setIfInBounds_toArray, List.set_cons_zero, List.set_cons_succ])
    refine PX.wpAnyY_one (i := 3) (o := ?_) (by kernel_rfl) ?_ (fun Kq hKq => ?_)
    rotate_left
    · simp only [List.getElem?_toArray, List.getElem?_cons_succ, List.getElem?_cons_zero]; rfl
    go_simp
    refine (CS.out _).mono ?_
    rintro e w1 ⟨n1, rfl, hn1, bqw1⟩
    have Hw1 := Lib.hid (thence hHeld bqw1 (Nat.le_refl _))
    have HN1 := Lib.hid hn1
    clear bqw1
    go_wp2_with fail
    refine hKq.out _ _ (Hw1.out) (fun hHeld => ?_)
    clear hKq Kq
    (try simp only [Act.put, List.setIfInBounds_toArray, List.set_cons_zero, List.set_cons_succ])
    refine PX.wpAnyY_one (i := 7) (o := ?_) (by kernel_rfl) ?_ (fun Kq hKq => ?_)
    rotate_left
    · simp only [List.getElem?_toArray, List.getElem?_cons_succ, List.getElem?_cons_zero]; rfl
    go_simp
    refine (CA.out _ _ _ _ _).mono ?_
    rintro e w2 ⟨rfl, b2⟩
    have H2 := Lib.hid (thence Hw1.out b2 (Nat.le_refl _))
    clear b2
    go_wp2_with fail
    refine hKq.out _ _ (H2.out) (fun hHeld => ?_)
    clear hKq Kq
    (try simp only [Act.put, List.setIfInBounds_toArray, List.set_cons_zero, List.set_cons_succ])
    refine PX.wpAnyY_free (i := 8) (o := ?_) (by kernel_rfl) (by kernel_rfl) ?_ (fun Kq hKq => ?_)
    rotate_left
    · simp only [List.getElem?_toArray, List.getElem?_cons_succ, List.getElem?_cons_zero]; rfl
    go_simp
    refine hKq.out _ _ ?_
    clear hKq Kq
    (try simp only [Act.put, List.setIfInBounds_toArray, List.set_cons_zero, List.set_cons_succ])
    refine PX.wpAnyY_done (by kernel_rfl) ?_ _
    refine NoPanic.normal ?_
    have HQ : Hid (ask ⟨id, mem, chunk, rows, log, heads⟩ s n1 m mem = q) := (ask_same (fun h => hn1 h) (fun h => rfl)).trans HQ0.out
    rw [HQ.out]
    have B2 := Lib.hid (thence B0.out H2.out (Nat.le_refl _))
    have BX := Lib.hid (BX.out.here H2.out)
    clear hHeld hn1 HQ c0 c1 c2 c3 c4 c5
    obtain ⟨c0, c1, c2, c3, c4, c5⟩ := BX.out.six
    have hg2 := BX.out.lt
    go_wp2_with fail
    go_ret2
    exact ⟨rfl, B2.out⟩

set_option maxHeartbeats 2000000 in
theorem ref7Spot_any (id : Nat) (mem chunk rows log heads : Int) (b : Int) (w : World) :
    Calls Try.prog 14 #[.agg #[.int .u32 (id : Int), .int .i64 mem, .int .i64 chunk, .int .i64 rows, .int .i64 log, .int .i64 heads], .int .i64 b] w fun e w' => e = .returned (.tuple #[.agg #[.int .i64 (if ask ⟨id, mem, chunk, rows, log, heads⟩ b (chunk * rows * (mem - 1)) 0 1 = 0 then TK.spotStripe ⟨id, mem, chunk, rows, log, heads⟩ b else 0), .int .i64 (if ask ⟨id, mem, chunk, rows, log, heads⟩ b (chunk * rows * (mem - 1)) 0 1 = 0 then TK.spotSlot ⟨id, mem, chunk, rows, log, heads⟩ b else 0), .int .i64 (if ask ⟨id, mem, chunk, rows, log, heads⟩ b (chunk * rows * (mem - 1)) 0 1 = 0 then TK.spotMember ⟨id, mem, chunk, rows, log, heads⟩ b else 0)], .int .i64 ((ask ⟨id, mem, chunk, rows, log, heads⟩ b (chunk * rows * (mem - 1)) 0 1 : Nat) : Int)]) ∧ Below w.heap.size w w' := by
  have CS := Lib.hid (fun w1 => refBlocks_some id mem chunk rows log heads w1)
  have CA := Lib.hid (refAsked_any id mem chunk rows log heads)
  have ha1 : Below w.heap.size w (w.alloc (.cells #[.int .u32 (id : Int), .int .i64 mem, .int .i64 chunk, .int .i64 rows, .int .i64 log, .int .i64 heads] 27)) := (Below.refl _ _).alloc (Nat.le_refl _) _
  have ha2 : Below (w.alloc (.cells #[.int .u32 (id : Int), .int .i64 mem, .int .i64 chunk, .int .i64 rows, .int .i64 log, .int .i64 heads] 27)).heap.size (w.alloc (.cells #[.int .u32 (id : Int), .int .i64 mem, .int .i64 chunk, .int .i64 rows, .int .i64 log, .int .i64 heads] 27)) ((w.alloc (.cells #[.int .u32 (id : Int), .int .i64 mem, .int .i64 chunk, .int .i64 rows, .int .i64 log, .int .i64 heads] 27)).alloc (.cells #[.int .i64 0, .int .i64 0, .int .i64 0] 30)) := (Below.refl _ _).alloc (Nat.le_refl _) _
  have B0 : Hid (Below w.heap.size w ((w.alloc (.cells #[.int .u32 (id : Int), .int .i64 mem, .int .i64 chunk, .int .i64 rows, .int .i64 log, .int .i64 heads] 27)).alloc (.cells #[.int .i64 0, .int .i64 0, .int .i64 0] 30))) := thence ha1 ha2 (Nat.le_refl _)
  have BX : Hid (Bx ((w.alloc (.cells #[.int .u32 (id : Int), .int .i64 mem, .int .i64 chunk, .int .i64 rows, .int .i64 log, .int .i64 heads] 27)).alloc (.cells #[.int .i64 0, .int .i64 0, .int .i64 0] 30)) w.heap.size [.int .u32 (id : Int), .int .i64 mem, .int .i64 chunk, .int .i64 rows, .int .i64 log, .int .i64 heads]) := (Bx.new w [.int .u32 (id : Int), .int .i64 mem, .int .i64 chunk, .int .i64 rows, .int .i64 log, .int .i64 heads] 27).here ha2
  have BY : Hid (Bx ((w.alloc (.cells #[.int .u32 (id : Int), .int .i64 mem, .int .i64 chunk, .int .i64 rows, .int .i64 log, .int .i64 heads] 27)).alloc (.cells #[.int .i64 0, .int .i64 0, .int .i64 0] 30)) (w.heap.size + 1) [.int .i64 0, .int .i64 0, .int .i64 0]) := by
    have h := Bx.new (w.alloc (.cells #[.int .u32 (id : Int), .int .i64 mem, .int .i64 chunk, .int .i64 rows, .int .i64 log, .int .i64 heads] 27)) [.int .i64 0, .int .i64 0, .int .i64 0] 30
    have e : (w.alloc (.cells #[.int .u32 (id : Int), .int .i64 mem, .int .i64 chunk, .int .i64 rows, .int .i64 log, .int .i64 heads] 27)).heap.size = w.heap.size + 1 := by simp
    rw [e] at h
    exact h
  clear ha1 ha2
  obtain ⟨q, hq0⟩ : ∃ q, ask ⟨id, mem, chunk, rows, log, heads⟩ b (chunk * rows * (mem - 1)) 0 1 = q := ⟨_, rfl⟩
  have HQ0 := Lib.hid hq0
  rw [hq0]
  by_cases g : q = 0
  · subst g
    have HA := ask_iff.1 hq0
    clear hq0
    simp only [if_pos]
    have SB := TK.spot_bd HA.1 HA.2.1 HA.2.2.1
    have AI : Hid (∀ s k : Int, 0 ≤ k → k < mem - 1 → (TK.blockAt ⟨id, mem, chunk, rows, log, heads⟩ s k = b ↔ s = TK.spotStripe ⟨id, mem, chunk, rows, log, heads⟩ b ∧ k = TK.spotSlot ⟨id, mem, chunk, rows, log, heads⟩ b)) := fun s k h0 h1 => TK.at_iff HA.1 h0 h1
    have SM := Lib.hid (TK.spot_member HA.1 (b := b))
    have CST := Lib.hid (fun w1 => refStripes_any id mem chunk rows log heads w1 HA.1)
    have CAT : Hid (∀ (s k : Int) (w1 : World), 0 ≤ s → s < chunk * rows → 0 ≤ k → k < mem - 1 → Calls Try.prog 32 #[.agg #[.int .u32 (id : Int), .int .i64 mem, .int .i64 chunk, .int .i64 rows, .int .i64 log, .int .i64 heads], .int .i64 s, .int .i64 k] w1 fun e w' => e = .returned (.int .i64 (TK.blockAt ⟨id, mem, chunk, rows, log, heads⟩ s k)) ∧ Below w1.heap.size w1 w') := fun s k w1 h0 h1 h2 h3 => refAt_any id mem chunk rows log heads s k w1 HA.1 h0 h1 h2 (by have h4 := HA.1.1.2; dsimp only at h4; omega)
    have CON : Hid (∀ (s k : Int) (w1 : World), 0 ≤ s → s < chunk * rows → 0 ≤ k → k < mem - 1 → Calls Try.prog 33 #[.agg #[.int .u32 (id : Int), .int .i64 mem, .int .i64 chunk, .int .i64 rows, .int .i64 log, .int .i64 heads], .int .i64 s, .int .i64 k] w1 fun e w' => e = .returned (.int .i64 (TK.memberOf ⟨id, mem, chunk, rows, log, heads⟩ s k)) ∧ Below w1.heap.size w1 w') := fun s k w1 h0 h1 h2 h3 => refOn_slot id mem chunk rows log heads s k w1 HA.1 h0 h1 h2 h3
    obtain ⟨⟨k0, k1⟩, ⟨k2, k3⟩, ⟨k4, k5⟩, -⟩ := HA.1
    have hss := SK.stripes_bd HA.1
    unfold Cfg.stripes at SB hss
    dsimp only at SB k0 k1 k2 k3 k4 k5 hss
    obtain ⟨sb0, sb1, sb2, sb3, sb4, sb5⟩ := SB
    obtain ⟨ss0, ss1⟩ := hss
    generalize TK.spotStripe ⟨id, mem, chunk, rows, log, heads⟩ b = S at *
    generalize TK.spotSlot ⟨id, mem, chunk, rows, log, heads⟩ b = K at *
    generalize TK.spotMember ⟨id, mem, chunk, rows, log, heads⟩ b = M at *
    clear HA
    go_enter Try.func14, Try.ntmps14
    go_wp2_with fail
    generalize (w.alloc (.cells #[.int .u32 (id : Int), .int .i64 mem, .int .i64 chunk, .int .i64 rows, .int .i64 log, .int .i64 heads] 27)).alloc (.cells #[.int .i64 0, .int .i64 0, .int .i64 0] 30) = W0 at *
    have hg := BX.out.lt
    obtain ⟨c0, c1, c2, c3, c4, c5⟩ := BX.out.six
    refine wp_region_noPanic ?_
    refine PX.wp_region_y (fun w' => Below W0.heap.size W0 w') [5] (by kernel_rfl) (Below.refl _ _).drew (fun hHeld => ?_)
    refine PX.wpAnyY_take (i := 0) (oi := ?_) (v := ?_) ?_ (by kernel_rfl) (by kernel_rfl) (by kernel_rfl) (by kernel_rfl) (by kernel_rfl) (fun _ _ _ h => h) (Or.inl ⟨?_, ?_⟩) (by assumption) ?_
    rotate_left 2
    · simp only [List.getElem?_toArray, List.getElem?_cons_succ, List.getElem?_cons_zero]; rfl
    · rfl
    · intro w hSw; (try dsimp only at hSw); have hC := fun (b o : Nat) (h : b < W0.heap.size) => Below.cell hSw (p := ⟨b, o, none⟩) h; go_simp <;> with_reducible rfl
    (try simp only [Act.put, List.setIfInBounds_toArray, List.set_cons_zero, List.set_cons_succ])
    refine PX.wpAnyY_take (i := 1) (oi := ?_) (v := ?_) ?_ (by kernel_rfl) (by kernel_rfl) (by kernel_rfl) (by kernel_rfl) (by kernel_rfl) (fun _ _ _ h => h) (Or.inl ⟨?_, ?_⟩) (by assumption) ?_
    rotate_left 2
    · simp only [List.getElem?_toArray, List.getElem?_cons_succ, List.getElem?_cons_zero]; rfl
    · rfl
    · intro w hSw; (try dsimp only at hSw); go_simp <;> with_reducible rfl
    (try simp only [Act.put, List.setIfInBounds_toArray, List.set_cons_zero, List.set_cons_succ])
    refine PX.wpAnyY_take (i := 2) (oi := ?_) (v := ?_) ?_ (by kernel_rfl) (by kernel_rfl) (by kernel_rfl) (by kernel_rfl) (by kernel_rfl) (fun _ _ _ h => h) (Or.inl ⟨?_, ?_⟩) (by assumption) ?_
    rotate_left 2
    · simp only [List.getElem?_toArray, List.getElem?_cons_succ, List.getElem?_cons_zero]; rfl
    · rfl
    · intro w hSw; (try dsimp only at hSw); have hC := fun (b o : Nat) (h : b < W0.heap.size) => Below.cell hSw (p := ⟨b, o, none⟩) h; go_simp <;> with_reducible rfl
    (try simp only [Act.put, List.setIfInBounds_toArray, List.set_cons_zero, List.set_cons_succ])
    refine PX.wpAnyY_one (i := 3) (o := ?_) (by kernel_rfl) ?_ (fun Kq hKq => ?_)
    rotate_left
    · simp only [List.getElem?_toArray, List.getElem?_cons_succ, List.getElem?_cons_zero]; rfl
    go_simp
    refine (CS.out _).mono ?_
    rintro e w1 ⟨n1, rfl, hn1, bqw1⟩
    have Hw1 := Lib.hid (thence hHeld bqw1 (Nat.le_refl _))
    have HN1 := Lib.hid hn1
    clear bqw1
    go_wp2_with fail
    refine hKq.out _ _ (Hw1.out) (fun hHeld => ?_)
    clear hKq Kq
    (try simp only [Act.put, List.setIfInBounds_toArray, List.set_cons_zero, List.set_cons_succ])
    refine PX.wpAnyY_one (i := 4) (o := ?_) (by kernel_rfl) ?_ (fun Kq hKq => ?_)
    rotate_left
    · simp only [List.getElem?_toArray, List.getElem?_cons_succ, List.getElem?_cons_zero]; rfl
    go_simp
    refine (CA.out _ _ _ _ _).mono ?_
    rintro e w2 ⟨rfl, b2⟩
    have H2 := Lib.hid (thence Hw1.out b2 (Nat.le_refl _))
    clear b2
    go_wp2_with fail
    refine hKq.out _ _ (H2.out) (fun hHeld => ?_)
    clear hKq Kq
    (try simp only [Act.put, List.setIfInBounds_toArray, List.set_cons_zero, List.set_cons_succ])
    refine PX.wpAnyY_free (i := 5) (o := ?_) (by kernel_rfl) (by kernel_rfl) ?_ (fun Kq hKq => ?_)
    rotate_left
    · simp only [List.getElem?_toArray, List.getElem?_cons_succ, List.getElem?_cons_zero]; rfl
    go_simp
    refine hKq.out _ _ ?_
    clear hKq Kq
    (try simp only [Act.put, List.setIfInBounds_toArray, List.set_cons_zero, List.set_cons_succ])
    refine PX.wpAnyY_done (by kernel_rfl) ?_ _
    refine NoPanic.normal ?_
    have HQ : Hid (ask ⟨id, mem, chunk, rows, log, heads⟩ b n1 0 1 = 0) := (ask_same (fun h => hn1 h) (fun h => rfl)).trans HQ0.out
    rw [HQ.out]
    have B2 := Lib.hid (thence B0.out H2.out (Nat.le_refl _))
    have BX := Lib.hid (BX.out.here H2.out)
    clear hHeld hn1 HQ c0 c1 c2 c3 c4 c5
    obtain ⟨c0, c1, c2, c3, c4, c5⟩ := BX.out.six
    have hg2 := BX.out.lt
    have BY := Lib.hid (BY.out.here H2.out)
    have hy2 := BY.out.lt
    obtain ⟨y0, y1, y2⟩ := BY.out.three
    have z0 := BY.out.frozen 0
    have z1 := BY.out.frozen 1
    have z2 := BY.out.frozen 2
    go_wp2_with fail
    clear c0 c1 c2 c3 c4 c5
    go_loopw [7] (fun i wr => ∃ s : Nat, (s : Int) ≤ S ∧ i = .int .i64 s ∧ Below w2.heap.size w2 wr) (fun i _ => (chunk * rows).toNat - (intOf i).toNat)
    case atStart => exact ⟨0, by omega, rfl, Below.refl _ _⟩
    case round =>
      obtain ⟨s, hs, rfl, hb⟩ := hrel
      have HB := Lib.hid hb
      have BR := Lib.hid (BX.out.here hb)
      have hgr := BR.out.lt
      clear hb
      obtain ⟨c0, c1, c2, c3, c4, c5⟩ := BR.out.six
      have hlt : (s : Int) < chunk * rows := by omega
      go_wp2_with fail
      refine (CST.out _).mono ?_
      rintro e w3 ⟨rfl, b3⟩
      have HB3 := Lib.hid (thence HB.out b3 (Nat.le_refl _))
      have BR3 := Lib.hid (BX.out.here HB3.out)
      have hgr3 := BR3.out.lt
      clear b3 c0 c1 c2 c3 c4 c5
      go_wp2_with fail
      go_loopw [8] (fun i wr => ∃ k : Nat, (k : Int) ≤ mem - 1 ∧ ((s : Int) = S → (k : Int) ≤ K) ∧ i = .int .i64 k ∧ Below w2.heap.size w2 wr) (fun i _ => (mem - 1).toNat - (intOf i).toNat)
      case atStart => exact ⟨0, by omega, fun _ => by omega, rfl, HB3.out⟩
      case round =>
        obtain ⟨k, hk, hk2, rfl, hb⟩ := hrel
        have HB4 := Lib.hid hb
        have BR4 := Lib.hid (BX.out.here hb)
        have hgr4 := BR4.out.lt
        clear hb
        obtain ⟨c0, c1, c2, c3, c4, c5⟩ := BR4.out.six
        have HK2 := Lib.hid hk2
        clear hk2
        by_cases hkl : (k : Int) < mem - 1
        · have CATk := Lib.hid (fun w1 => CAT.out (s : Int) (k : Int) w1 (by omega) hlt (by omega) hkl)
          have CONk := Lib.hid (fun w1 => CON.out (s : Int) (k : Int) w1 (by omega) hlt (by omega) hkl)
          have AIk := Lib.hid (AI.out (s : Int) (k : Int) (by omega) hkl)
          by_cases hy : TK.blockAt ⟨id, mem, chunk, rows, log, heads⟩ s k = b
          · obtain ⟨e1, e2⟩ := AIk.out.1 hy
            rw [hy] at CATk
            have HMS : Hid (TK.memberOf ⟨id, mem, chunk, rows, log, heads⟩ s k = M) := by rw [e1, e2]; exact SM.out
            rw [HMS.out] at CONk
            have HE1 := Lib.hid e1
            have HE2 := Lib.hid e2
            clear hy e1 e2
            go_wp2_with fail
            refine (CATk.out _).mono ?_
            rintro e w5 ⟨rfl, b5⟩
            have HB5 := Lib.hid (thence HB4.out b5 (Nat.le_refl _))
            have BR5 := Lib.hid (BX.out.here HB5.out)
            have hgr5 := BR5.out.lt
            clear b5 c0 c1 c2 c3 c4 c5
            obtain ⟨c0, c1, c2, c3, c4, c5⟩ := BR5.out.six
            go_wp2_with fail
            refine (CONk.out _).mono ?_
            rintro e w6 ⟨rfl, b6⟩
            have HB6 := Lib.hid (thence HB5.out b6 (Nat.le_refl _))
            have BY6 := Lib.hid (BY.out.here HB6.out)
            have hy6 := BY6.out.lt
            have HF := Lib.hid (thence B2.out HB6.out (Nat.le_refl _))
            clear b6 c0 c1 c2 c3 c4 c5 y0 y1 y2 z0 z1 z2
            obtain ⟨y0, y1, y2⟩ := BY6.out.three
            have z0 := BY6.out.frozen 0
            have z1 := BY6.out.frozen 1
            have z2 := BY6.out.frozen 2
            go_wp2_with fail
            refine bodyPost_ret (v := .tuple #[.agg #[.int .i64 (s : Int), .int .i64 (k : Int), .int .i64 M], .int .i64 0]) (by simp [results, Try.results14, go_sem, y0, y1, y2]) rfl ⟨by rw [HE1.out, HE2.out]; rfl, ?_⟩
            exact ((HF.out.setCell (p := ⟨w.heap.size + 1, 0, none⟩) (Nat.le_succ _) _).setCell (p := ⟨w.heap.size + 1, 1, none⟩) (Nat.le_succ _) _).setCell (p := ⟨w.heap.size + 1, 2, none⟩) (Nat.le_succ _) _
          · have hf : (TK.blockAt ⟨id, mem, chunk, rows, log, heads⟩ s k == b) = false := beq_eq_false_iff_ne.2 hy
            have hne : (s : Int) = S → (k : Int) + 1 ≤ K := fun e => by
              have h1 := HK2.out e
              have h2 : ¬ (k : Int) = K := fun e2 => hy (AIk.out.2 ⟨e, e2⟩)
              omega
            have HNE := Lib.hid hne
            clear hy hne
            generalize TK.blockAt ⟨id, mem, chunk, rows, log, heads⟩ s k = bk at *
            go_wp2_with fail
            refine (CATk.out _).mono ?_
            rintro e w5 ⟨rfl, b5⟩
            have HB5 := Lib.hid (thence HB4.out b5 (Nat.le_refl _))
            clear b5
            go_wp2_with fail
            go_roundw
            case rel => exact ⟨k + 1, by omega, fun e => by have := HNE.out e; omega, by go_num, HB5.out⟩
            case measure => simp [intOf]; omega
        · have hns : (s : Int) + 1 ≤ S := by
            by_cases e : (s : Int) = S
            · have := HK2.out e; omega
            · omega
          go_wp2_with fail
          go_roundw
          case rel => exact ⟨s + 1, by omega, by go_num, HB4.out⟩
          case measure => simp [intOf]; omega
  · skip
    have e0 : ((q : Int) == 0) = false := beq_eq_false_iff_ne.2 (by omega)
    have e1 : ((q : Int) != 0) = true := by rw [bne, e0]; rfl
    simp only [if_neg g]
    clear hq0 g
    go_enter Try.func14, Try.ntmps14
    go_wp2_with fail
    generalize (w.alloc (.cells #[.int .u32 (id : Int), .int .i64 mem, .int .i64 chunk, .int .i64 rows, .int .i64 log, .int .i64 heads] 27)).alloc (.cells #[.int .i64 0, .int .i64 0, .int .i64 0] 30) = W0 at *
    have hg := BX.out.lt
    obtain ⟨c0, c1, c2, c3, c4, c5⟩ := BX.out.six
    refine wp_region_noPanic ?_
    refine PX.wp_region_y (fun w' => Below W0.heap.size W0 w') [5] (by kernel_rfl) (Below.refl _ _).drew (fun hHeld => ?_)
    refine PX.wpAnyY_take (i := 0) (oi := ?_) (v := ?_) ?_ (by kernel_rfl) (by kernel_rfl) (by kernel_rfl) (by kernel_rfl) (by kernel_rfl) (fun _ _ _ h => h) (Or.inl ⟨?_, ?_⟩) (by assumption) ?_
    rotate_left 2
    · simp only [List.getElem?_toArray, List.getElem?_cons_succ, List.getElem?_cons_zero]; rfl
    · rfl
    · intro w hSw; (try dsimp only at hSw); have hC := fun (b o : Nat) (h : b < W0.heap.size) => Below.cell hSw (p := ⟨b, o, none⟩) h; go_simp <;> with_reducible rfl
    (try simp only [Act.put, List.setIfInBounds_toArray, List.set_cons_zero, List.set_cons_succ])
    refine PX.wpAnyY_take (i := 1) (oi := ?_) (v := ?_) ?_ (by kernel_rfl) (by kernel_rfl) (by kernel_rfl) (by kernel_rfl) (by kernel_rfl) (fun _ _ _ h => h) (Or.inl ⟨?_, ?_⟩) (by assumption) ?_
    rotate_left 2
    · simp only [List.getElem?_toArray, List.getElem?_cons_succ, List.getElem?_cons_zero]; rfl
    · rfl
    · intro w hSw; (try dsimp only at hSw); go_simp <;> with_reducible rfl
    (try simp only [Act.put, List.setIfInBounds_toArray, List.set_cons_zero, List.set_cons_succ])
    refine PX.wpAnyY_take (i := 2) (oi := ?_) (v := ?_) ?_ (by kernel_rfl) (by kernel_rfl) (by kernel_rfl) (by kernel_rfl) (by kernel_rfl) (fun _ _ _ h => h) (Or.inl ⟨?_, ?_⟩) (by assumption) ?_
    rotate_left 2
    · simp only [List.getElem?_toArray, List.getElem?_cons_succ, List.getElem?_cons_zero]; rfl
    · rfl
    · intro w hSw; (try dsimp only at hSw); have hC := fun (b o : Nat) (h : b < W0.heap.size) => Below.cell hSw (p := ⟨b, o, none⟩) h; go_simp <;> with_reducible rfl
    (try simp only [Act.put, List.setIfInBounds_toArray, List.set_cons_zero, List.set_cons_succ])
    refine PX.wpAnyY_one (i := 3) (o := ?_) (by kernel_rfl) ?_ (fun Kq hKq => ?_)
    rotate_left
    · simp only [List.getElem?_toArray, List.getElem?_cons_succ, List.getElem?_cons_zero]; rfl
    go_simp
    refine (CS.out _).mono ?_
    rintro e w1 ⟨n1, rfl, hn1, bqw1⟩
    have Hw1 := Lib.hid (thence hHeld bqw1 (Nat.le_refl _))
    have HN1 := Lib.hid hn1
    clear bqw1
    go_wp2_with fail
    refine hKq.out _ _ (Hw1.out) (fun hHeld => ?_)
    clear hKq Kq
    (try simp only [Act.put, List.setIfInBounds_toArray, List.set_cons_zero, List.set_cons_succ])
    refine PX.wpAnyY_one (i := 4) (o := ?_) (by kernel_rfl) ?_ (fun Kq hKq => ?_)
    rotate_left
    · simp only [List.getElem?_toArray, List.getElem?_cons_succ, List.getElem?_cons_zero]; rfl
    go_simp
    refine (CA.out _ _ _ _ _).mono ?_
    rintro e w2 ⟨rfl, b2⟩
    have H2 := Lib.hid (thence Hw1.out b2 (Nat.le_refl _))
    clear b2
    go_wp2_with fail
    refine hKq.out _ _ (H2.out) (fun hHeld => ?_)
    clear hKq Kq
    (try simp only [Act.put, List.setIfInBounds_toArray, List.set_cons_zero, List.set_cons_succ])
    refine PX.wpAnyY_free (i := 5) (o := ?_) (by kernel_rfl) (by kernel_rfl) ?_ (fun Kq hKq => ?_)
    rotate_left
    · simp only [List.getElem?_toArray, List.getElem?_cons_succ, List.getElem?_cons_zero]; rfl
    go_simp
    refine hKq.out _ _ ?_
    clear hKq Kq
    (try simp only [Act.put, List.setIfInBounds_toArray, List.set_cons_zero, List.set_cons_succ])
    refine PX.wpAnyY_done (by kernel_rfl) ?_ _
    refine NoPanic.normal ?_
    have HQ : Hid (ask ⟨id, mem, chunk, rows, log, heads⟩ b n1 0 1 = q) := (ask_same (fun h => hn1 h) (fun h => rfl)).trans HQ0.out
    rw [HQ.out]
    have B2 := Lib.hid (thence B0.out H2.out (Nat.le_refl _))
    have BX := Lib.hid (BX.out.here H2.out)
    clear hHeld hn1 HQ c0 c1 c2 c3 c4 c5
    obtain ⟨c0, c1, c2, c3, c4, c5⟩ := BX.out.six
    have hg2 := BX.out.lt
    have BY := Lib.hid (BY.out.here H2.out)
    have hy2 := BY.out.lt
    obtain ⟨y0, y1, y2⟩ := BY.out.three
    have z0 := BY.out.frozen 0
    have z1 := BY.out.frozen 1
    have z2 := BY.out.frozen 2
    go_wp2_with fail
    refine bodyPost_ret (v := .tuple #[.agg #[.int .i64 0, .int .i64 0, .int .i64 0], .int .i64 (q : Int)]) (by simp [results, Try.results14, go_sem, y0, y1, y2]) rfl ⟨rfl, ?_⟩
    exact ((B2.out.setCell (p := ⟨w.heap.size + 1, 0, none⟩) (Nat.le_succ _) _).setCell (p := ⟨w.heap.size + 1, 1, none⟩) (Nat.le_succ _) _).setCell (p := ⟨w.heap.size + 1, 2, none⟩) (Nat.le_succ _) _
end Go.Proofs.Ythliogicdbnfoaa.PW
