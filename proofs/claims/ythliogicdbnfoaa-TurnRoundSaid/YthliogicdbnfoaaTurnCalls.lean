/-
  Layer 7: what the program's own calls answer.
-/
import Derived.Test.YthliogicdbnfoaaTurnLaws
import Derived.Test.YthliogicdbnfoaaShapeCalls
namespace Go.Proofs.Ythliogicdbnfoaa.PW
open Go.RowKit
open SK (Cfg)
set_option linter.unusedVariables false
set_option linter.unusedSimpArgs false
set_option maxRecDepth 100000

theorem Bx.five {w : World} {g : Nat} {x0 x1 x2 x3 x4 : Value} (h : Bx w g [x0, x1, x2, x3, x4]) : w.cell? ⟨g, 0, none⟩ = some x0 ∧ w.cell? ⟨g, 1, none⟩ = some x1 ∧ w.cell? ⟨g, 2, none⟩ = some x2 ∧ w.cell? ⟨g, 3, none⟩ = some x3 ∧ w.cell? ⟨g, 4, none⟩ = some x4 :=
  ⟨h.cell 0, h.cell 1, h.cell 2, h.cell 3, h.cell 4⟩
theorem shapeBlocks : ShapeNum 20 (fun c => c.chunk * c.rows * (c.mem - 1)) := shBlocks_is

theorem tuParted_any (n d : Int) (w : World) (h0 : 0 ≤ n) (h1 : n < 4096) (h2 : 0 < d) (h3 : d < 4096) :
    Calls Try.prog 39 #[.int .i64 n, .int .i64 d] w fun e w' => e = .returned (.tuple #[.int .i64 (n / d), .int .i64 (n % d)]) ∧ Below w.heap.size w w' := by
  have q0 : 0 ≤ n / d := Int.ediv_nonneg h0 (by omega)
  have q1 : n / d ≤ n := Int.ediv_le_self _ h0
  have q2 := TK.rem_bd (a := n) (b := d) h2
  go_enter Try.func39, Try.ntmps39
  go_wp2_with fail
  go_quiet (fail)
  go_wp2_with fail
  go_ret2
  exact ⟨rfl, below_drewN (Below.refl _ _) _⟩

theorem tuBelow_yes (n d : Int) (w : World) (h : 0 ≤ n ∧ n < d) :
    Calls Try.prog 22 #[.int .i64 n, .int .i64 d] w fun e w' => e = .returned (.bool true) ∧ Below w.heap.size w w' := by
  obtain ⟨h0, h1⟩ := h
  go_enter Try.func22, Try.ntmps22
  go_wp2_with fail
  go_ret
  exact ⟨rfl, Below.refl _ _⟩
theorem tuBelow_no (n d : Int) (w : World) (h : ¬ (0 ≤ n ∧ n < d)) :
    Calls Try.prog 22 #[.int .i64 n, .int .i64 d] w fun e w' => e = .returned (.bool false) ∧ Below w.heap.size w w' := by
  by_cases h0 : 0 ≤ n
  · have h1 : ¬ n < d := fun x => h ⟨h0, x⟩
    clear h
    go_enter Try.func22, Try.ntmps22
    go_wp2_with fail
    go_ret
    exact ⟨rfl, Below.refl _ _⟩
  · clear h
    go_enter Try.func22, Try.ntmps22
    go_wp2_with fail
    go_ret
    exact ⟨rfl, Below.refl _ _⟩

theorem tuOfStripe_any (m k c n : Int) (w : World) (h0 : 0 ≤ n) (h1 : n < 4096) (hc : 1 ≤ c ∧ c ≤ 8) :
    Calls Try.prog 38 #[.agg #[.int .i64 m, .int .i64 k, .int .i64 c], .int .i64 n] w fun e w' => e = .returned (.tuple #[.int .i64 (n / c), .int .i64 (n % c)]) ∧ Below w.heap.size w w' := by
  have B0 : Hid (Below w.heap.size w (w.alloc (.cells #[.int .i64 m, .int .i64 k, .int .i64 c] 45))) := (Below.refl _ _).alloc (Nat.le_refl _) _
  have CP := Lib.hid (fun w1 => tuParted_any n c w1 h0 h1 (by omega) (by omega))
  go_enter Try.func38, Try.ntmps38
  go_wp2_with fail
  (with_reducible refine (CP.out _).mono ?_)
  rintro e w1 ⟨rfl, b1⟩
  have B1 := Lib.hid (thence B0.out b1 (Nat.le_refl _))
  clear b1 B0
  go_wp2_with fail
  go_ret2
  exact ⟨rfl, B1.out⟩

theorem tuOfBlock_any (m k c n : Int) (w : World) (h0 : 0 ≤ n) (h1 : n < 4096) (hc : 1 ≤ c ∧ c ≤ 8) :
    Calls Try.prog 41 #[.agg #[.int .i64 m, .int .i64 k, .int .i64 c], .int .i64 n] w fun e w' => e = .returned (.tuple #[.int .i64 (n / c), .int .i64 (n % c)]) ∧ Below w.heap.size w w' := by
  have B0 : Hid (Below w.heap.size w (w.alloc (.cells #[.int .i64 m, .int .i64 k, .int .i64 c] 45))) := (Below.refl _ _).alloc (Nat.le_refl _) _
  have CP := Lib.hid (fun w1 => tuParted_any n c w1 h0 h1 (by omega) (by omega))
  go_enter Try.func41, Try.ntmps41
  go_wp2_with fail
  (with_reducible refine (CP.out _).mono ?_)
  rintro e w1 ⟨rfl, b1⟩
  have B1 := Lib.hid (thence B0.out b1 (Nat.le_refl _))
  clear b1 B0
  go_wp2_with fail
  go_ret2
  exact ⟨rfl, B1.out⟩

theorem tuOfChunk_any (m k c n : Int) (w : World) (h0 : 0 ≤ n) (h1 : n < 4096) (hk : 1 ≤ k ∧ k ≤ 16) :
    Calls Try.prog 42 #[.agg #[.int .i64 m, .int .i64 k, .int .i64 c], .int .i64 n] w fun e w' => e = .returned (.tuple #[.int .i64 (n / k), .int .i64 (n % k)]) ∧ Below w.heap.size w w' := by
  have B0 : Hid (Below w.heap.size w (w.alloc (.cells #[.int .i64 m, .int .i64 k, .int .i64 c] 45))) := (Below.refl _ _).alloc (Nat.le_refl _) _
  have CP := Lib.hid (fun w1 => tuParted_any n k w1 h0 h1 (by omega) (by omega))
  go_enter Try.func42, Try.ntmps42
  go_wp2_with fail
  (with_reducible refine (CP.out _).mono ?_)
  rintro e w1 ⟨rfl, b1⟩
  have B1 := Lib.hid (thence B0.out b1 (Nat.le_refl _))
  clear b1 B0
  go_wp2_with fail
  go_ret2
  exact ⟨rfl, B1.out⟩

theorem tuParity_any (m k c n : Int) (w : World) (h0 : 0 ≤ n) (h1 : n < 4096) (hm : 3 ≤ m ∧ m ≤ 16) (hc : 1 ≤ c ∧ c ≤ 8) :
    Calls Try.prog 40 #[.agg #[.int .i64 m, .int .i64 k, .int .i64 c], .int .i64 n] w fun e w' => e = .returned (.int .i64 (m - 1 - n / c % m)) ∧ Below w.heap.size w w' := by
  have B0 : Hid (Below w.heap.size w (w.alloc (.cells #[.int .i64 m, .int .i64 k, .int .i64 c] 45))) := (Below.refl _ _).alloc (Nat.le_refl _) _
  have BX := Lib.hid (Bx.new w [.int .i64 m, .int .i64 k, .int .i64 c] 45)
  have q0 : 0 ≤ n / c := Int.ediv_nonneg h0 (by omega)
  have q1 : n / c ≤ n := Int.ediv_le_self _ h0
  obtain ⟨q2, q3⟩ := TK.rem_bd (a := n / c) (b := m) (by omega)
  have CP := Lib.hid (fun w1 => tuOfStripe_any m k c n w1 h0 h1 hc)
  have CQ := Lib.hid (fun w1 => tuParted_any (n / c) m w1 q0 (by omega) (by omega) (by omega))
  go_enter Try.func40, Try.ntmps40
  go_wp2_with fail
  (with_reducible refine (CP.out _).mono ?_)
  rintro e w1 ⟨rfl, b1⟩
  replace BX := Lib.hid (BX.out.here b1)
  have B1 := Lib.hid (thence B0.out b1 (Nat.le_refl _))
  clear b1 B0
  obtain ⟨c0, c1, c2⟩ := BX.out.three
  have ltBX := BX.out.lt
  go_wp2_with fail
  (with_reducible refine (CQ.out _).mono ?_)
  rintro e w2 ⟨rfl, b2⟩
  clear c0 c1 c2 ltBX
  replace BX := Lib.hid (BX.out.here b2)
  have B2 := Lib.hid (thence B1.out b2 (Nat.le_refl _))
  clear b2 B1
  obtain ⟨c0, c1, c2⟩ := BX.out.three
  have ltBX := BX.out.lt
  go_wp2_with fail
  go_ret
  exact ⟨rfl, B2.out⟩

theorem tuPlace_any (m k c st bl n : Int) (w : World) (h0 : 0 ≤ n) (h1 : n < 4096) (hm : 3 ≤ m ∧ m ≤ 16) (hk : 2 ≤ k ∧ k ≤ 15) (hc : 1 ≤ c ∧ c ≤ 8) :
    Calls Try.prog 26 #[.agg #[.int .i64 m, .int .i64 k, .int .i64 c, .int .i64 st, .int .i64 bl], .int .i64 n] w fun e w' => e = .returned (.tuple #[.int .i64 (n / c / k * c + n % c), .int .i64 (n / c % k)]) ∧ Below w.heap.size w w' := by
  have B0 : Hid (Below w.heap.size w (w.alloc (.cells #[.int .i64 m, .int .i64 k, .int .i64 c, .int .i64 st, .int .i64 bl] 47))) := (Below.refl _ _).alloc (Nat.le_refl _) _
  have BX := Lib.hid (Bx.new w [.int .i64 m, .int .i64 k, .int .i64 c, .int .i64 st, .int .i64 bl] 47)
  have q0 : 0 ≤ n / c := Int.ediv_nonneg h0 (by omega)
  have q1 : n / c ≤ n := Int.ediv_le_self _ h0
  obtain ⟨q2, q3⟩ := TK.rem_bd (a := n) (b := c) (by omega)
  obtain ⟨q6, q7⟩ := TK.rem_bd (a := n / c) (b := k) (by omega)
  have q4 : 0 ≤ n / c / k := Int.ediv_nonneg q0 (by omega)
  have q5 : n / c / k ≤ n / c := Int.ediv_le_self _ q0
  have q8 : 0 ≤ n / c / k * c := Int.mul_nonneg q4 (by omega)
  have q9 : n / c / k * c ≤ 4096 * 8 := Int.mul_le_mul (by omega) hc.2 (by omega) (by omega)
  have CP := Lib.hid (fun w1 => tuOfBlock_any m k c n w1 h0 h1 hc)
  have CQ := Lib.hid (fun w1 => tuOfChunk_any m k c (n / c) w1 q0 (by omega) (by omega))
  go_enter Try.func26, Try.ntmps26
  obtain ⟨c0, c1, c2, c3, c4⟩ := BX.out.five
  have ltBX := BX.out.lt
  go_wp2_with fail
  (with_reducible refine (CP.out _).mono ?_)
  rintro e w1 ⟨rfl, b1⟩
  clear c0 c1 c2 c3 c4 ltBX
  replace BX := Lib.hid (BX.out.here b1)
  have B1 := Lib.hid (thence B0.out b1 (Nat.le_refl _))
  clear b1 B0
  obtain ⟨c0, c1, c2, c3, c4⟩ := BX.out.five
  have ltBX := BX.out.lt
  go_wp2_with fail
  (with_reducible refine (CQ.out _).mono ?_)
  rintro e w2 ⟨rfl, b2⟩
  clear c0 c1 c2 c3 c4 ltBX
  replace BX := Lib.hid (BX.out.here b2)
  have B2 := Lib.hid (thence B1.out b2 (Nat.le_refl _))
  clear b2 B1
  obtain ⟨c0, c1, c2, c3, c4⟩ := BX.out.five
  have ltBX := BX.out.lt
  go_wp2_with fail
  go_ret2
  exact ⟨rfl, B2.out⟩

theorem tuBlockIn_any (m k c st bl n x : Int) (w : World) (h0 : 0 ≤ n) (h1 : n < 4096) (hx : 0 ≤ x ∧ x < 16) (hm : 3 ≤ m ∧ m ≤ 16) (hk : 2 ≤ k ∧ k ≤ 15) (hc : 1 ≤ c ∧ c ≤ 8) :
    Calls Try.prog 23 #[.agg #[.int .i64 m, .int .i64 k, .int .i64 c, .int .i64 st, .int .i64 bl], .int .i64 n, .int .i64 x] w fun e w' => e = .returned (.int .i64 ((n / c * k + x) * c + n % c)) ∧ Below w.heap.size w w' := by
  have B0 : Hid (Below w.heap.size w (w.alloc (.cells #[.int .i64 m, .int .i64 k, .int .i64 c, .int .i64 st, .int .i64 bl] 47))) := (Below.refl _ _).alloc (Nat.le_refl _) _
  have BX := Lib.hid (Bx.new w [.int .i64 m, .int .i64 k, .int .i64 c, .int .i64 st, .int .i64 bl] 47)
  have q0 : 0 ≤ n / c := Int.ediv_nonneg h0 (by omega)
  have q1 : n / c ≤ n := Int.ediv_le_self _ h0
  obtain ⟨q2, q3⟩ := TK.rem_bd (a := n) (b := c) (by omega)
  have q4 : 0 ≤ n / c * k := Int.mul_nonneg q0 (by omega)
  have q5 : n / c * k ≤ 4096 * 15 := Int.mul_le_mul (by omega) (by omega) (by omega) (by omega)
  have q6 : 0 ≤ (n / c * k + x) * c := Int.mul_nonneg (by omega) (by omega)
  have q7 : (n / c * k + x) * c ≤ 65536 * 8 := Int.mul_le_mul (by omega) hc.2 (by omega) (by omega)
  have CP := Lib.hid (fun w1 => tuOfStripe_any m k c n w1 h0 h1 hc)
  go_enter Try.func23, Try.ntmps23
  obtain ⟨c0, c1, c2, c3, c4⟩ := BX.out.five
  have ltBX := BX.out.lt
  go_wp2_with fail
  (with_reducible refine (CP.out _).mono ?_)
  rintro e w1 ⟨rfl, b1⟩
  clear c0 c1 c2 c3 c4 ltBX
  replace BX := Lib.hid (BX.out.here b1)
  have B1 := Lib.hid (thence B0.out b1 (Nat.le_refl _))
  clear b1 B0
  obtain ⟨c0, c1, c2, c3, c4⟩ := BX.out.five
  have ltBX := BX.out.lt
  go_wp2_with fail
  go_ret
  exact ⟨rfl, B1.out⟩

set_option maxHeartbeats 2000000 in
theorem tuMemberIn_any (m k c st bl n x : Int) (w : World) (h0 : 0 ≤ n) (h1 : n < 4096) (hx : 0 ≤ x ∧ x < 17) (hm : 3 ≤ m ∧ m ≤ 16) (hk : 2 ≤ k ∧ k ≤ 15) (hc : 1 ≤ c ∧ c ≤ 8) :
    Calls Try.prog 24 #[.agg #[.int .i64 m, .int .i64 k, .int .i64 c, .int .i64 st, .int .i64 bl], .int .i64 n, .int .i64 x] w fun e w' => e = .returned (.int .i64 ((m - n / c % m + x) % m)) ∧ Below w.heap.size w w' := by
  have B0 : Hid (Below w.heap.size w (w.alloc (.cells #[.int .i64 m, .int .i64 k, .int .i64 c, .int .i64 st, .int .i64 bl] 47))) := (Below.refl _ _).alloc (Nat.le_refl _) _
  have BX := Lib.hid (Bx.new w [.int .i64 m, .int .i64 k, .int .i64 c, .int .i64 st, .int .i64 bl] 47)
  obtain ⟨q2, q3⟩ := TK.rem_bd (a := n / c) (b := m) (by omega)
  have CP := Lib.hid (fun w1 => tuParity_any m k c n w1 h0 h1 hm hc)
  obtain ⟨p, hp⟩ : ∃ p, p = m - 1 - n / c % m := ⟨_, rfl⟩
  rw [← hp] at CP
  have e0 : p + 1 + x = m - n / c % m + x := by omega
  have CQ := Lib.hid (fun w1 => tuParted_any (p + 1 + x) m w1 (by omega) (by omega) (by omega) (by omega))
  rw [show (p + 1 + x) % m = (m - n / c % m + x) % m from by rw [e0]] at CQ
  generalize (p + 1 + x) / m = q at *
  generalize (m - n / c % m + x) % m = v at *
  have s1 : IntKind.i64.wrap (p + 1) = p + 1 := IntWalk.i64_in _ (by omega)
  have s2 : IntKind.i64.wrap (p + 1 + x) = p + 1 + x := IntWalk.i64_in _ (by omega)
  clear hp e0 q2 q3 hm hk hc
  go_enter Try.func24, Try.ntmps24
  go_wp2_with fail
  have BX : Hid (Bx (w.alloc (.cells #[.int .i64 m, .int .i64 k, .int .i64 c, .int .i64 st, .int .i64 bl] 47)) w.heap.size [.int .i64 m, .int .i64 k, .int .i64 c, .int .i64 st, .int .i64 bl]) := BX
  generalize w.alloc (.cells #[.int .i64 m, .int .i64 k, .int .i64 c, .int .i64 st, .int .i64 bl] 47) = W0 at *
  have hg := BX.out.lt
  obtain ⟨c0, c1, c2, c3, c4⟩ := BX.out.five
  refine wp_region_noPanic ?_
  refine PX.wp_region_y (fun w' => Below W0.heap.size W0 w') [] (by kernel_rfl) (Below.refl _ _).drew (fun hHeld => ?_)
  refine PX.wpAnyY_take (i := 0) (oi := ?_) (v := ?_) ?_ (by kernel_rfl) (by kernel_rfl) (by kernel_rfl) (by kernel_rfl) (by kernel_rfl) (fun _ _ _ h => h) (Or.inl ⟨?_, ?_⟩) (by assumption) ?_
  rotate_left 2
  · simp only [List.getElem?_toArray, List.getElem?_cons_succ, List.getElem?_cons_zero]; rfl
  · rfl
  · intro w hSw; (try dsimp only at hSw); go_simp <;> with_reducible rfl
  (try simp only [Act.put, List.setIfInBounds_toArray, List.set_cons_zero, List.set_cons_succ])
  refine PX.wpAnyY_take (i := 1) (oi := ?_) (v := ?_) ?_ (by kernel_rfl) (by kernel_rfl) (by kernel_rfl) (by kernel_rfl) (by kernel_rfl) (fun _ _ _ h => h) (Or.inl ⟨?_, ?_⟩) (by assumption) ?_
  rotate_left 2
  · simp only [List.getElem?_toArray, List.getElem?_cons_succ, List.getElem?_cons_zero]; rfl
  · rfl
  · intro w hSw; (try dsimp only at hSw); have hC := fun (b o : Nat) (h : b < W0.heap.size) => Below.cell hSw (p := ⟨b, o, none⟩) h; go_simp <;> with_reducible rfl
  (try simp only [Act.put, List.setIfInBounds_toArray, List.set_cons_zero, List.set_cons_succ])
  refine PX.wpAnyY_take (i := 2) (oi := ?_) (v := ?_) ?_ (by kernel_rfl) (by kernel_rfl) (by kernel_rfl) (by kernel_rfl) (by kernel_rfl) (fun _ _ _ h => h) (Or.inl ⟨?_, ?_⟩) (by assumption) ?_
  rotate_left 2
  · simp only [List.getElem?_toArray, List.getElem?_cons_succ, List.getElem?_cons_zero]; rfl
  · rfl
  · intro w hSw; (try dsimp only at hSw); go_simp <;> with_reducible rfl
  (try simp only [Act.put, List.setIfInBounds_toArray, List.set_cons_zero, List.set_cons_succ])
  refine PX.wpAnyY_take (i := 5) (oi := ?_) (v := ?_) ?_ (by kernel_rfl) (by kernel_rfl) (by kernel_rfl) (by kernel_rfl) (by kernel_rfl) (fun _ _ _ h => h) (Or.inl ⟨?_, ?_⟩) (by assumption) ?_
  rotate_left 2
  · simp only [List.getElem?_toArray, List.getElem?_cons_succ, List.getElem?_cons_zero]; rfl
  · rfl
  · intro w hSw; (try dsimp only at hSw); go_simp <;> with_reducible rfl
  (try simp only [Act.put, List.setIfInBounds_toArray, List.set_cons_zero, List.set_cons_succ])
  refine PX.wpAnyY_take (i := 7) (oi := ?_) (v := ?_) ?_ (by kernel_rfl) (by kernel_rfl) (by kernel_rfl) (by kernel_rfl) (by kernel_rfl) (fun _ _ _ h => h) (Or.inl ⟨?_, ?_⟩) (by assumption) ?_
  rotate_left 2
  · simp only [List.getElem?_toArray, List.getElem?_cons_succ, List.getElem?_cons_zero]; rfl
  · rfl
  · intro w hSw; (try dsimp only at hSw); go_simp <;> with_reducible rfl
  (try simp only [Act.put, List.setIfInBounds_toArray, List.set_cons_zero, List.set_cons_succ])
  refine PX.wpAnyY_take (i := 8) (oi := ?_) (v := ?_) ?_ (by kernel_rfl) (by kernel_rfl) (by kernel_rfl) (by kernel_rfl) (by kernel_rfl) (fun _ _ _ h => h) (Or.inl ⟨?_, ?_⟩) (by assumption) ?_
  rotate_left 2
  · simp only [List.getElem?_toArray, List.getElem?_cons_succ, List.getElem?_cons_zero]; rfl
  · rfl
  · intro w hSw; (try dsimp only at hSw); go_simp <;> with_reducible rfl
  (try simp only [Act.put, List.setIfInBounds_toArray, List.set_cons_zero, List.set_cons_succ])
  refine PX.wpAnyY_take (i := 9) (oi := ?_) (v := ?_) ?_ (by kernel_rfl) (by kernel_rfl) (by kernel_rfl) (by kernel_rfl) (by kernel_rfl) (fun _ _ _ h => h) (Or.inl ⟨?_, ?_⟩) (by assumption) ?_
  rotate_left 2
  · simp only [List.getElem?_toArray, List.getElem?_cons_succ, List.getElem?_cons_zero]; rfl
  · rfl
  · intro w hSw; (try dsimp only at hSw); have hC := fun (b o : Nat) (h : b < W0.heap.size) => Below.cell hSw (p := ⟨b, o, none⟩) h; go_simp <;> with_reducible rfl
  (try simp only [Act.put, List.setIfInBounds_toArray, List.set_cons_zero, List.set_cons_succ])
  refine PX.wpAnyY_one (i := 3) (o := ?_) (by kernel_rfl) ?_ (fun Kq hKq => ?_)
  rotate_left
  · simp only [List.getElem?_toArray, List.getElem?_cons_succ, List.getElem?_cons_zero]; rfl
  go_simp
  (with_reducible refine (CP.out _).mono ?_)
  rintro e w1 ⟨rfl, bqw1⟩
  have Hw1 := Lib.hid (thence hHeld bqw1 (Nat.le_refl _))
  clear bqw1
  go_wp2_with fail
  refine hKq.out _ _ (Hw1.out) (fun hHeld => ?_)
  clear hKq Kq
  (try simp only [Act.put, List.setIfInBounds_toArray, List.set_cons_zero, List.set_cons_succ])
  refine PX.wpAnyY_one (i := 4) (o := ?_) (by kernel_rfl) ?_ (fun Kq hKq => ?_)
  rotate_left
  · simp only [List.getElem?_toArray, List.getElem?_cons_succ, List.getElem?_cons_zero]; rfl
  go_simp
  refine hKq.out _ _ (hHeld) (fun hHeld => ?_)
  clear hKq Kq
  (try simp only [Act.put, List.setIfInBounds_toArray, List.set_cons_zero, List.set_cons_succ])
  refine PX.wpAnyY_one (i := 6) (o := ?_) (by kernel_rfl) ?_ (fun Kq hKq => ?_)
  rotate_left
  · simp only [List.getElem?_toArray, List.getElem?_cons_succ, List.getElem?_cons_zero]; rfl
  go_simp
  refine hKq.out _ _ (hHeld) (fun hHeld => ?_)
  clear hKq Kq
  (try simp only [Act.put, List.setIfInBounds_toArray, List.set_cons_zero, List.set_cons_succ])
  refine PX.wpAnyY_one (i := 10) (o := ?_) (by kernel_rfl) ?_ (fun Kq hKq => ?_)
  rotate_left
  · simp only [List.getElem?_toArray, List.getElem?_cons_succ, List.getElem?_cons_zero]; rfl
  go_simp
  (with_reducible refine (CQ.out _).mono ?_)
  rintro e w2 ⟨rfl, bqw2⟩
  have Hw2 := Lib.hid (thence hHeld bqw2 (Nat.le_refl _))
  clear bqw2
  go_wp2_with fail
  refine hKq.out _ _ (Hw2.out) (fun hHeld => ?_)
  clear hKq Kq
  (try simp only [Act.put, List.setIfInBounds_toArray, List.set_cons_zero, List.set_cons_succ])
  refine PX.wpAnyY_one (i := 11) (o := ?_) (by kernel_rfl) ?_ (fun Kq hKq => ?_)
  rotate_left
  · simp only [List.getElem?_toArray, List.getElem?_cons_succ, List.getElem?_cons_zero]; rfl
  go_simp
  refine hKq.out _ _ (hHeld) (fun hHeld => ?_)
  clear hKq Kq
  (try simp only [Act.put, List.setIfInBounds_toArray, List.set_cons_zero, List.set_cons_succ])
  refine PX.wpAnyY_take (i := 12) (oi := ?_) (v := ?_) ?_ (by kernel_rfl) (by kernel_rfl) (by kernel_rfl) (by kernel_rfl) (by kernel_rfl) (fun _ _ _ h => h) (Or.inl ⟨?_, ?_⟩) (by assumption) ?_
  rotate_left 2
  · simp only [List.getElem?_toArray, List.getElem?_cons_succ, List.getElem?_cons_zero]; rfl
  · rfl
  · intro w hSw; (try dsimp only at hSw); go_simp <;> with_reducible rfl
  (try simp only [Act.put, List.setIfInBounds_toArray, List.set_cons_zero, List.set_cons_succ])
  refine PX.wpAnyY_take (i := 13) (oi := ?_) (v := ?_) ?_ (by kernel_rfl) (by kernel_rfl) (by kernel_rfl) (by kernel_rfl) (by kernel_rfl) (fun _ _ _ h => h) (Or.inl ⟨?_, ?_⟩) (by assumption) ?_
  rotate_left 2
  · simp only [List.getElem?_toArray, List.getElem?_cons_succ, List.getElem?_cons_zero]; rfl
  · rfl
  · intro w hSw; (try dsimp only at hSw); go_simp <;> with_reducible rfl
  (try simp only [Act.put, List.setIfInBounds_toArray, List.set_cons_zero, List.set_cons_succ])
  refine PX.wpAnyY_one (i := 14) (o := ?_) (by kernel_rfl) ?_ (fun Kq hKq => ?_)
  rotate_left
  · simp only [List.getElem?_toArray, List.getElem?_cons_succ, List.getElem?_cons_zero]; rfl
  go_simp
  refine hKq.out _ _ (hHeld) (fun hHeld => ?_)
  clear hKq Kq
  (try simp only [Act.put, List.setIfInBounds_toArray, List.set_cons_zero, List.set_cons_succ])
  refine PX.wpAnyY_one (i := 15) (o := ?_) (by kernel_rfl) ?_ (fun Kq hKq => ?_)
  rotate_left
  · simp only [List.getElem?_toArray, List.getElem?_cons_succ, List.getElem?_cons_zero]; rfl
  go_simp
  refine hKq.out _ _ (hHeld) (fun hHeld => ?_)
  clear hKq Kq
  (try simp only [Act.put, List.setIfInBounds_toArray, List.set_cons_zero, List.set_cons_succ])
  refine PX.wpAnyY_done (by kernel_rfl) ?_ _
  refine NoPanic.normal ?_
  have HE := Lib.hid Hw2.out
  clear hHeld
  go_wp2_with fail
  go_ret
  exact ⟨rfl, thence B0.out HE.out (Nat.le_refl _)⟩

set_option maxHeartbeats 2000000 in
theorem tuSlotIn_any (m k c st bl n x : Int) (w : World) (h0 : 0 ≤ n) (h1 : n < 4096) (hx : 0 ≤ x ∧ x < 17) (hm : 3 ≤ m ∧ m ≤ 16) (hk : 2 ≤ k ∧ k ≤ 15) (hc : 1 ≤ c ∧ c ≤ 8) :
    Calls Try.prog 25 #[.agg #[.int .i64 m, .int .i64 k, .int .i64 c, .int .i64 st, .int .i64 bl], .int .i64 n, .int .i64 x] w fun e w' => e = .returned (.int .i64 ((x + n / c % m) % m)) ∧ Below w.heap.size w w' := by
  have B0 : Hid (Below w.heap.size w (w.alloc (.cells #[.int .i64 m, .int .i64 k, .int .i64 c, .int .i64 st, .int .i64 bl] 47))) := (Below.refl _ _).alloc (Nat.le_refl _) _
  have BX := Lib.hid (Bx.new w [.int .i64 m, .int .i64 k, .int .i64 c, .int .i64 st, .int .i64 bl] 47)
  obtain ⟨q2, q3⟩ := TK.rem_bd (a := n / c) (b := m) (by omega)
  have CP := Lib.hid (fun w1 => tuParity_any m k c n w1 h0 h1 hm hc)
  obtain ⟨p, hp⟩ : ∃ p, p = m - 1 - n / c % m := ⟨_, rfl⟩
  rw [← hp] at CP
  have e0 : x + m - p - 1 = x + n / c % m := by omega
  have CQ := Lib.hid (fun w1 => tuParted_any (x + m - p - 1) m w1 (by omega) (by omega) (by omega) (by omega))
  rw [show (x + m - p - 1) % m = (x + n / c % m) % m from by rw [e0]] at CQ
  generalize (x + m - p - 1) / m = q at *
  generalize (x + n / c % m) % m = v at *
  have s1 : IntKind.i64.wrap (x + m) = x + m := IntWalk.i64_in _ (by omega)
  have s2 : IntKind.i64.wrap (x + m - p) = x + m - p := IntWalk.i64_in _ (by omega)
  have s3 : IntKind.i64.wrap (x + m - p - 1) = x + m - p - 1 := IntWalk.i64_in _ (by omega)
  clear hp e0 q2 q3 hm hk hc
  go_enter Try.func25, Try.ntmps25
  go_wp2_with fail
  have BX : Hid (Bx (w.alloc (.cells #[.int .i64 m, .int .i64 k, .int .i64 c, .int .i64 st, .int .i64 bl] 47)) w.heap.size [.int .i64 m, .int .i64 k, .int .i64 c, .int .i64 st, .int .i64 bl]) := BX
  generalize w.alloc (.cells #[.int .i64 m, .int .i64 k, .int .i64 c, .int .i64 st, .int .i64 bl] 47) = W0 at *
  have hg := BX.out.lt
  obtain ⟨c0, c1, c2, c3, c4⟩ := BX.out.five
  refine wp_region_noPanic ?_
  refine PX.wp_region_y (fun w' => Below W0.heap.size W0 w') [] (by kernel_rfl) (Below.refl _ _).drew (fun hHeld => ?_)
  refine PX.wpAnyY_take (i := 0) (oi := ?_) (v := ?_) ?_ (by kernel_rfl) (by kernel_rfl) (by kernel_rfl) (by kernel_rfl) (by kernel_rfl) (fun _ _ _ h => h) (Or.inl ⟨?_, ?_⟩) (by assumption) ?_
  rotate_left 2
  · simp only [List.getElem?_toArray, List.getElem?_cons_succ, List.getElem?_cons_zero]; rfl
  · rfl
  · intro w hSw; (try dsimp only at hSw); go_simp <;> with_reducible rfl
  (try simp only [Act.put, List.setIfInBounds_toArray, List.set_cons_zero, List.set_cons_succ])
  refine PX.wpAnyY_take (i := 1) (oi := ?_) (v := ?_) ?_ (by kernel_rfl) (by kernel_rfl) (by kernel_rfl) (by kernel_rfl) (by kernel_rfl) (fun _ _ _ h => h) (Or.inl ⟨?_, ?_⟩) (by assumption) ?_
  rotate_left 2
  · simp only [List.getElem?_toArray, List.getElem?_cons_succ, List.getElem?_cons_zero]; rfl
  · rfl
  · intro w hSw; (try dsimp only at hSw); go_simp <;> with_reducible rfl
  (try simp only [Act.put, List.setIfInBounds_toArray, List.set_cons_zero, List.set_cons_succ])
  refine PX.wpAnyY_take (i := 2) (oi := ?_) (v := ?_) ?_ (by kernel_rfl) (by kernel_rfl) (by kernel_rfl) (by kernel_rfl) (by kernel_rfl) (fun _ _ _ h => h) (Or.inl ⟨?_, ?_⟩) (by assumption) ?_
  rotate_left 2
  · simp only [List.getElem?_toArray, List.getElem?_cons_succ, List.getElem?_cons_zero]; rfl
  · rfl
  · intro w hSw; (try dsimp only at hSw); go_simp <;> with_reducible rfl
  (try simp only [Act.put, List.setIfInBounds_toArray, List.set_cons_zero, List.set_cons_succ])
  refine PX.wpAnyY_take (i := 3) (oi := ?_) (v := ?_) ?_ (by kernel_rfl) (by kernel_rfl) (by kernel_rfl) (by kernel_rfl) (by kernel_rfl) (fun _ _ _ h => h) (Or.inl ⟨?_, ?_⟩) (by assumption) ?_
  rotate_left 2
  · simp only [List.getElem?_toArray, List.getElem?_cons_succ, List.getElem?_cons_zero]; rfl
  · rfl
  · intro w hSw; (try dsimp only at hSw); have hC := fun (b o : Nat) (h : b < W0.heap.size) => Below.cell hSw (p := ⟨b, o, none⟩) h; go_simp <;> with_reducible rfl
  (try simp only [Act.put, List.setIfInBounds_toArray, List.set_cons_zero, List.set_cons_succ])
  refine PX.wpAnyY_take (i := 4) (oi := ?_) (v := ?_) ?_ (by kernel_rfl) (by kernel_rfl) (by kernel_rfl) (by kernel_rfl) (by kernel_rfl) (fun _ _ _ h => h) (Or.inl ⟨?_, ?_⟩) (by assumption) ?_
  rotate_left 2
  · simp only [List.getElem?_toArray, List.getElem?_cons_succ, List.getElem?_cons_zero]; rfl
  · rfl
  · intro w hSw; (try dsimp only at hSw); go_simp <;> with_reducible rfl
  (try simp only [Act.put, List.setIfInBounds_toArray, List.set_cons_zero, List.set_cons_succ])
  refine PX.wpAnyY_take (i := 5) (oi := ?_) (v := ?_) ?_ (by kernel_rfl) (by kernel_rfl) (by kernel_rfl) (by kernel_rfl) (by kernel_rfl) (fun _ _ _ h => h) (Or.inl ⟨?_, ?_⟩) (by assumption) ?_
  rotate_left 2
  · simp only [List.getElem?_toArray, List.getElem?_cons_succ, List.getElem?_cons_zero]; rfl
  · rfl
  · intro w hSw; (try dsimp only at hSw); go_simp <;> with_reducible rfl
  (try simp only [Act.put, List.setIfInBounds_toArray, List.set_cons_zero, List.set_cons_succ])
  refine PX.wpAnyY_take (i := 6) (oi := ?_) (v := ?_) ?_ (by kernel_rfl) (by kernel_rfl) (by kernel_rfl) (by kernel_rfl) (by kernel_rfl) (fun _ _ _ h => h) (Or.inl ⟨?_, ?_⟩) (by assumption) ?_
  rotate_left 2
  · simp only [List.getElem?_toArray, List.getElem?_cons_succ, List.getElem?_cons_zero]; rfl
  · rfl
  · intro w hSw; (try dsimp only at hSw); have hC := fun (b o : Nat) (h : b < W0.heap.size) => Below.cell hSw (p := ⟨b, o, none⟩) h; go_simp <;> with_reducible rfl
  (try simp only [Act.put, List.setIfInBounds_toArray, List.set_cons_zero, List.set_cons_succ])
  refine PX.wpAnyY_take (i := 7) (oi := ?_) (v := ?_) ?_ (by kernel_rfl) (by kernel_rfl) (by kernel_rfl) (by kernel_rfl) (by kernel_rfl) (fun _ _ _ h => h) (Or.inl ⟨?_, ?_⟩) (by assumption) ?_
  rotate_left 2
  · simp only [List.getElem?_toArray, List.getElem?_cons_succ, List.getElem?_cons_zero]; rfl
  · rfl
  · intro w hSw; (try dsimp only at hSw); go_simp <;> with_reducible rfl
  (try simp only [Act.put, List.setIfInBounds_toArray, List.set_cons_zero, List.set_cons_succ])
  refine PX.wpAnyY_take (i := 11) (oi := ?_) (v := ?_) ?_ (by kernel_rfl) (by kernel_rfl) (by kernel_rfl) (by kernel_rfl) (by kernel_rfl) (fun _ _ _ h => h) (Or.inl ⟨?_, ?_⟩) (by assumption) ?_
  rotate_left 2
  · simp only [List.getElem?_toArray, List.getElem?_cons_succ, List.getElem?_cons_zero]; rfl
  · rfl
  · intro w hSw; (try dsimp only at hSw); go_simp <;> with_reducible rfl
  (try simp only [Act.put, List.setIfInBounds_toArray, List.set_cons_zero, List.set_cons_succ])
  refine PX.wpAnyY_take (i := 12) (oi := ?_) (v := ?_) ?_ (by kernel_rfl) (by kernel_rfl) (by kernel_rfl) (by kernel_rfl) (by kernel_rfl) (fun _ _ _ h => h) (Or.inl ⟨?_, ?_⟩) (by assumption) ?_
  rotate_left 2
  · simp only [List.getElem?_toArray, List.getElem?_cons_succ, List.getElem?_cons_zero]; rfl
  · rfl
  · intro w hSw; (try dsimp only at hSw); go_simp <;> with_reducible rfl
  (try simp only [Act.put, List.setIfInBounds_toArray, List.set_cons_zero, List.set_cons_succ])
  refine PX.wpAnyY_take (i := 13) (oi := ?_) (v := ?_) ?_ (by kernel_rfl) (by kernel_rfl) (by kernel_rfl) (by kernel_rfl) (by kernel_rfl) (fun _ _ _ h => h) (Or.inl ⟨?_, ?_⟩) (by assumption) ?_
  rotate_left 2
  · simp only [List.getElem?_toArray, List.getElem?_cons_succ, List.getElem?_cons_zero]; rfl
  · rfl
  · intro w hSw; (try dsimp only at hSw); have hC := fun (b o : Nat) (h : b < W0.heap.size) => Below.cell hSw (p := ⟨b, o, none⟩) h; go_simp <;> with_reducible rfl
  (try simp only [Act.put, List.setIfInBounds_toArray, List.set_cons_zero, List.set_cons_succ])
  refine PX.wpAnyY_one (i := 8) (o := ?_) (by kernel_rfl) ?_ (fun Kq hKq => ?_)
  rotate_left
  · simp only [List.getElem?_toArray, List.getElem?_cons_succ, List.getElem?_cons_zero]; rfl
  go_simp
  (with_reducible refine (CP.out _).mono ?_)
  rintro e w1 ⟨rfl, bqw1⟩
  have Hw1 := Lib.hid (thence hHeld bqw1 (Nat.le_refl _))
  clear bqw1
  go_wp2_with fail
  refine hKq.out _ _ (Hw1.out) (fun hHeld => ?_)
  clear hKq Kq
  (try simp only [Act.put, List.setIfInBounds_toArray, List.set_cons_zero, List.set_cons_succ])
  refine PX.wpAnyY_one (i := 9) (o := ?_) (by kernel_rfl) ?_ (fun Kq hKq => ?_)
  rotate_left
  · simp only [List.getElem?_toArray, List.getElem?_cons_succ, List.getElem?_cons_zero]; rfl
  go_simp
  refine hKq.out _ _ (hHeld) (fun hHeld => ?_)
  clear hKq Kq
  (try simp only [Act.put, List.setIfInBounds_toArray, List.set_cons_zero, List.set_cons_succ])
  refine PX.wpAnyY_one (i := 10) (o := ?_) (by kernel_rfl) ?_ (fun Kq hKq => ?_)
  rotate_left
  · simp only [List.getElem?_toArray, List.getElem?_cons_succ, List.getElem?_cons_zero]; rfl
  go_simp
  refine hKq.out _ _ (hHeld) (fun hHeld => ?_)
  clear hKq Kq
  (try simp only [Act.put, List.setIfInBounds_toArray, List.set_cons_zero, List.set_cons_succ])
  refine PX.wpAnyY_one (i := 14) (o := ?_) (by kernel_rfl) ?_ (fun Kq hKq => ?_)
  rotate_left
  · simp only [List.getElem?_toArray, List.getElem?_cons_succ, List.getElem?_cons_zero]; rfl
  go_simp
  (with_reducible refine (CQ.out _).mono ?_)
  rintro e w2 ⟨rfl, bqw2⟩
  have Hw2 := Lib.hid (thence hHeld bqw2 (Nat.le_refl _))
  clear bqw2
  go_wp2_with fail
  refine hKq.out _ _ (Hw2.out) (fun hHeld => ?_)
  clear hKq Kq
  (try simp only [Act.put, List.setIfInBounds_toArray, List.set_cons_zero, List.set_cons_succ])
  refine PX.wpAnyY_one (i := 15) (o := ?_) (by kernel_rfl) ?_ (fun Kq hKq => ?_)
  rotate_left
  · simp only [List.getElem?_toArray, List.getElem?_cons_succ, List.getElem?_cons_zero]; rfl
  go_simp
  refine hKq.out _ _ (hHeld) (fun hHeld => ?_)
  clear hKq Kq
  (try simp only [Act.put, List.setIfInBounds_toArray, List.set_cons_zero, List.set_cons_succ])
  refine PX.wpAnyY_take (i := 16) (oi := ?_) (v := ?_) ?_ (by kernel_rfl) (by kernel_rfl) (by kernel_rfl) (by kernel_rfl) (by kernel_rfl) (fun _ _ _ h => h) (Or.inl ⟨?_, ?_⟩) (by assumption) ?_
  rotate_left 2
  · simp only [List.getElem?_toArray, List.getElem?_cons_succ, List.getElem?_cons_zero]; rfl
  · rfl
  · intro w hSw; (try dsimp only at hSw); go_simp <;> with_reducible rfl
  (try simp only [Act.put, List.setIfInBounds_toArray, List.set_cons_zero, List.set_cons_succ])
  refine PX.wpAnyY_take (i := 17) (oi := ?_) (v := ?_) ?_ (by kernel_rfl) (by kernel_rfl) (by kernel_rfl) (by kernel_rfl) (by kernel_rfl) (fun _ _ _ h => h) (Or.inl ⟨?_, ?_⟩) (by assumption) ?_
  rotate_left 2
  · simp only [List.getElem?_toArray, List.getElem?_cons_succ, List.getElem?_cons_zero]; rfl
  · rfl
  · intro w hSw; (try dsimp only at hSw); go_simp <;> with_reducible rfl
  (try simp only [Act.put, List.setIfInBounds_toArray, List.set_cons_zero, List.set_cons_succ])
  refine PX.wpAnyY_one (i := 18) (o := ?_) (by kernel_rfl) ?_ (fun Kq hKq => ?_)
  rotate_left
  · simp only [List.getElem?_toArray, List.getElem?_cons_succ, List.getElem?_cons_zero]; rfl
  go_simp
  refine hKq.out _ _ (hHeld) (fun hHeld => ?_)
  clear hKq Kq
  (try simp only [Act.put, List.setIfInBounds_toArray, List.set_cons_zero, List.set_cons_succ])
  refine PX.wpAnyY_one (i := 19) (o := ?_) (by kernel_rfl) ?_ (fun Kq hKq => ?_)
  rotate_left
  · simp only [List.getElem?_toArray, List.getElem?_cons_succ, List.getElem?_cons_zero]; rfl
  go_simp
  refine hKq.out _ _ (hHeld) (fun hHeld => ?_)
  clear hKq Kq
  (try simp only [Act.put, List.setIfInBounds_toArray, List.set_cons_zero, List.set_cons_succ])
  refine PX.wpAnyY_done (by kernel_rfl) ?_ _
  refine NoPanic.normal ?_
  have HE := Lib.hid Hw2.out
  clear hHeld
  go_wp2_with fail
  go_ret
  exact ⟨rfl, thence B0.out HE.out (Nat.le_refl _)⟩

set_option maxHeartbeats 2000000 in
theorem tuTable_yes (id : Nat) (mem chunk rows log heads : Int) (w : World) (h : Cfg.may ⟨id, mem, chunk, rows, log, heads⟩ = true) :
    Calls Try.prog 21 #[.agg #[.int .u32 (id : Int), .int .i64 mem, .int .i64 chunk, .int .i64 rows, .int .i64 log, .int .i64 heads]] w fun e w' => e = .returned (.tuple #[.agg #[.int .i64 mem, .int .i64 (mem - 1), .int .i64 chunk, .int .i64 (chunk * rows), .int .i64 (chunk * rows * (mem - 1))], .int .i64 0]) ∧ Below w.heap.size w w' := by
  have CS := Lib.hid (fun w1 => shStripes_is id mem chunk rows log heads w1)
  have CB := Lib.hid (fun w1 => shBlocks_is id mem chunk rows log heads w1)
  rw [h, if_pos rfl, SK.code_yes h] at CS CB
  have hm := (SK.may_iff.1 h).1
  dsimp only at hm
  obtain ⟨m0, m1⟩ := hm
  clear h
  generalize chunk * rows * (mem - 1) = bl at *
  generalize chunk * rows = st at *
  have B0 : Hid (Below w.heap.size w ((w.alloc (.cells #[.int .u32 (id : Int), .int .i64 mem, .int .i64 chunk, .int .i64 rows, .int .i64 log, .int .i64 heads] 27)).alloc (.cells #[.int .i64 0, .int .i64 0, .int .i64 0, .int .i64 0, .int .i64 0] 47))) := ((Below.refl _ _).alloc (Nat.le_refl _) _).alloc (by simp) _
  have BX : Hid (Bx ((w.alloc (.cells #[.int .u32 (id : Int), .int .i64 mem, .int .i64 chunk, .int .i64 rows, .int .i64 log, .int .i64 heads] 27)).alloc (.cells #[.int .i64 0, .int .i64 0, .int .i64 0, .int .i64 0, .int .i64 0] 47)) w.heap.size [.int .u32 (id : Int), .int .i64 mem, .int .i64 chunk, .int .i64 rows, .int .i64 log, .int .i64 heads]) := (Bx.new w [.int .u32 (id : Int), .int .i64 mem, .int .i64 chunk, .int .i64 rows, .int .i64 log, .int .i64 heads] 27).alloc _
  have BR : Hid (Bx ((w.alloc (.cells #[.int .u32 (id : Int), .int .i64 mem, .int .i64 chunk, .int .i64 rows, .int .i64 log, .int .i64 heads] 27)).alloc (.cells #[.int .i64 0, .int .i64 0, .int .i64 0, .int .i64 0, .int .i64 0] 47)) (w.heap.size + 1) [.int .i64 0, .int .i64 0, .int .i64 0, .int .i64 0, .int .i64 0]) := by have := Bx.new (w.alloc (.cells #[.int .u32 (id : Int), .int .i64 mem, .int .i64 chunk, .int .i64 rows, .int .i64 log, .int .i64 heads] 27)) [.int .i64 0, .int .i64 0, .int .i64 0, .int .i64 0, .int .i64 0] 47; rw [World.size_alloc] at this; exact this
  have hS : ((w.alloc (.cells #[.int .u32 (id : Int), .int .i64 mem, .int .i64 chunk, .int .i64 rows, .int .i64 log, .int .i64 heads] 27)).alloc (.cells #[.int .i64 0, .int .i64 0, .int .i64 0, .int .i64 0, .int .i64 0] 47)).heap.size = w.heap.size + 2 := by simp
  go_enter Try.func21, Try.ntmps21
  go_wp2_with fail
  (with_reducible refine (CS.out _).mono ?_)
  rintro e w1 ⟨rfl, b1⟩
  replace BX := Lib.hid (BX.out.here b1)
  replace BR := Lib.hid (BR.out.here b1)
  have B1 := Lib.hid (thence B0.out b1 (Nat.le_refl _))
  clear b1 B0
  obtain ⟨c0, c1, c2, c3, c4, c5⟩ := BX.out.six
  have ltBX := BX.out.lt
  obtain ⟨r0, r1, r2, r3, r4⟩ := BR.out.five
  have ltBR := BR.out.lt
  have fzBR0 := BR.out.frozen 0
  have fzBR1 := BR.out.frozen 1
  have fzBR2 := BR.out.frozen 2
  have fzBR3 := BR.out.frozen 3
  have fzBR4 := BR.out.frozen 4
  go_wp2_with fail
  (with_reducible refine (CB.out _).mono ?_)
  rintro e w2 ⟨rfl, b2⟩
  clear c0 c1 c2 c3 c4 c5 r0 r1 r2 r3 r4 ltBX ltBR fzBR0 fzBR1 fzBR2 fzBR3 fzBR4
  replace BX := Lib.hid (BX.out.here b2)
  replace BR := Lib.hid (BR.out.here b2)
  have B2 := Lib.hid (thence B1.out b2 (Nat.le_refl _))
  clear b2 B1
  obtain ⟨c0, c1, c2, c3, c4, c5⟩ := BX.out.six
  have ltBX := BX.out.lt
  obtain ⟨r0, r1, r2, r3, r4⟩ := BR.out.five
  have ltBR := BR.out.lt
  have fzBR0 := BR.out.frozen 0
  have fzBR1 := BR.out.frozen 1
  have fzBR2 := BR.out.frozen 2
  have fzBR3 := BR.out.frozen 3
  have fzBR4 := BR.out.frozen 4
  go_wp2_with fail
  have hb := (((((B2.out.setCell (p := ⟨w.heap.size + 1, 0, none⟩) (Nat.le_succ _) (.int .i64 (mem))).setCell (p := ⟨w.heap.size + 1, 1, none⟩) (Nat.le_succ _) (.int .i64 (mem - 1))).setCell (p := ⟨w.heap.size + 1, 2, none⟩) (Nat.le_succ _) (.int .i64 (chunk))).setCell (p := ⟨w.heap.size + 1, 3, none⟩) (Nat.le_succ _) (.int .i64 (st))).setCell (p := ⟨w.heap.size + 1, 4, none⟩) (Nat.le_succ _) (.int .i64 (bl)))
  exact bodyPost_ret (v := .tuple #[.agg #[.int .i64 mem, .int .i64 (mem - 1), .int .i64 chunk, .int .i64 st, .int .i64 bl], .int .i64 0]) (by simp [results, Try.results21, go_sem, ltBR, r0, r1, r2, r3, r4]) rfl ⟨rfl, hb.alloc hb.size _⟩

set_option maxHeartbeats 2000000 in
theorem tuTable_no (id : Nat) (mem chunk rows log heads : Int) (w : World) (h : Cfg.may ⟨id, mem, chunk, rows, log, heads⟩ = false) :
    Calls Try.prog 21 #[.agg #[.int .u32 (id : Int), .int .i64 mem, .int .i64 chunk, .int .i64 rows, .int .i64 log, .int .i64 heads]] w fun e w' => e = .returned (.tuple #[.agg #[.int .i64 0, .int .i64 0, .int .i64 0, .int .i64 0, .int .i64 0], .int .i64 8]) ∧ Below w.heap.size w w' := by
  have CS := Lib.hid (fun w1 => shStripes_is id mem chunk rows log heads w1)
  rw [h, if_neg (by simp), SK.code_no h] at CS
  clear h
  have B0 : Hid (Below w.heap.size w ((w.alloc (.cells #[.int .u32 (id : Int), .int .i64 mem, .int .i64 chunk, .int .i64 rows, .int .i64 log, .int .i64 heads] 27)).alloc (.cells #[.int .i64 0, .int .i64 0, .int .i64 0, .int .i64 0, .int .i64 0] 47))) := ((Below.refl _ _).alloc (Nat.le_refl _) _).alloc (by simp) _
  have BX : Hid (Bx ((w.alloc (.cells #[.int .u32 (id : Int), .int .i64 mem, .int .i64 chunk, .int .i64 rows, .int .i64 log, .int .i64 heads] 27)).alloc (.cells #[.int .i64 0, .int .i64 0, .int .i64 0, .int .i64 0, .int .i64 0] 47)) w.heap.size [.int .u32 (id : Int), .int .i64 mem, .int .i64 chunk, .int .i64 rows, .int .i64 log, .int .i64 heads]) := (Bx.new w [.int .u32 (id : Int), .int .i64 mem, .int .i64 chunk, .int .i64 rows, .int .i64 log, .int .i64 heads] 27).alloc _
  have BR : Hid (Bx ((w.alloc (.cells #[.int .u32 (id : Int), .int .i64 mem, .int .i64 chunk, .int .i64 rows, .int .i64 log, .int .i64 heads] 27)).alloc (.cells #[.int .i64 0, .int .i64 0, .int .i64 0, .int .i64 0, .int .i64 0] 47)) (w.heap.size + 1) [.int .i64 0, .int .i64 0, .int .i64 0, .int .i64 0, .int .i64 0]) := by have := Bx.new (w.alloc (.cells #[.int .u32 (id : Int), .int .i64 mem, .int .i64 chunk, .int .i64 rows, .int .i64 log, .int .i64 heads] 27)) [.int .i64 0, .int .i64 0, .int .i64 0, .int .i64 0, .int .i64 0] 47; rw [World.size_alloc] at this; exact this
  have hS : ((w.alloc (.cells #[.int .u32 (id : Int), .int .i64 mem, .int .i64 chunk, .int .i64 rows, .int .i64 log, .int .i64 heads] 27)).alloc (.cells #[.int .i64 0, .int .i64 0, .int .i64 0, .int .i64 0, .int .i64 0] 47)).heap.size = w.heap.size + 2 := by simp
  go_enter Try.func21, Try.ntmps21
  go_wp2_with fail
  (with_reducible refine (CS.out _).mono ?_)
  rintro e w1 ⟨rfl, b1⟩
  replace BX := Lib.hid (BX.out.here b1)
  replace BR := Lib.hid (BR.out.here b1)
  have B1 := Lib.hid (thence B0.out b1 (Nat.le_refl _))
  clear b1 B0
  obtain ⟨c0, c1, c2, c3, c4, c5⟩ := BX.out.six
  have ltBX := BX.out.lt
  obtain ⟨r0, r1, r2, r3, r4⟩ := BR.out.five
  have ltBR := BR.out.lt
  have fzBR0 := BR.out.frozen 0
  have fzBR1 := BR.out.frozen 1
  have fzBR2 := BR.out.frozen 2
  have fzBR3 := BR.out.frozen 3
  have fzBR4 := BR.out.frozen 4
  go_wp2_with fail
  have hb := (((((B1.out.setCell (p := ⟨w.heap.size + 1, 0, none⟩) (Nat.le_succ _) (.int .i64 (0))).setCell (p := ⟨w.heap.size + 1, 1, none⟩) (Nat.le_succ _) (.int .i64 (0))).setCell (p := ⟨w.heap.size + 1, 2, none⟩) (Nat.le_succ _) (.int .i64 (0))).setCell (p := ⟨w.heap.size + 1, 3, none⟩) (Nat.le_succ _) (.int .i64 (0))).setCell (p := ⟨w.heap.size + 1, 4, none⟩) (Nat.le_succ _) (.int .i64 (0)))
  exact bodyPost_ret (v := .tuple #[.agg #[.int .i64 0, .int .i64 0, .int .i64 0, .int .i64 0, .int .i64 0], .int .i64 8]) (by simp [results, Try.results21, go_sem, ltBR, r0, r1, r2, r3, r4]) rfl ⟨rfl, hb⟩

theorem ask_yes {c : Cfg} {a ba b bb : Int} (h : c.may = true) : ask c a ba b bb = askB a ba b bb := if_pos h
theorem ask_no {c : Cfg} {a ba b bb : Int} (h : c.may = false) : ask c a ba b bb = 8 := by unfold ask; rw [h]; rfl
/-- What a config that may be is held to. -/
theorem may_bds (id : Nat) (mem chunk rows log heads : Int) (h : Cfg.may ⟨id, mem, chunk, rows, log, heads⟩ = true) : (3 ≤ mem ∧ mem ≤ 16) ∧ (1 ≤ chunk ∧ chunk ≤ 8) ∧ chunk * rows ≤ 4000 ∧ chunk * rows * (mem - 1) ≤ 4000 := by
  have hm := SK.may_iff.1 h
  have hs := SK.stripes_bd hm
  have hb := SK.blocks_bd hm
  unfold Cfg.blocks at hb
  unfold Cfg.stripes at hs hb
  have h1 := hm.1
  have h2 := hm.2.1
  dsimp only at hs hb h1 h2
  exact ⟨h1, h2, by omega, by omega⟩

set_option maxHeartbeats 2000000 in
theorem tuBlock_is (id : Nat) (mem chunk rows log heads : Int) (s k : Int) (w : World) :
    Calls Try.prog 8 #[.agg #[.int .u32 (id : Int), .int .i64 mem, .int .i64 chunk, .int .i64 rows, .int .i64 log, .int .i64 heads], .int .i64 s, .int .i64 k] w fun e w' => e = .returned (.tuple #[.int .i64 (if ask ⟨id, mem, chunk, rows, log, heads⟩ s (chunk * rows) k (mem - 1) = 0 then TK.blockAt ⟨id, mem, chunk, rows, log, heads⟩ s k else 0), .int .i64 ((ask ⟨id, mem, chunk, rows, log, heads⟩ s (chunk * rows) k (mem - 1) : Nat) : Int)]) ∧ Below w.heap.size w w' := by
  have B0 : Hid (Below w.heap.size w (w.alloc (.cells #[.int .u32 (id : Int), .int .i64 mem, .int .i64 chunk, .int .i64 rows, .int .i64 log, .int .i64 heads] 27))) := (Below.refl _ _).alloc (Nat.le_refl _) _
  have BX := Lib.hid (Bx.new w [.int .u32 (id : Int), .int .i64 mem, .int .i64 chunk, .int .i64 rows, .int .i64 log, .int .i64 heads] 27)
  cases hm : Cfg.may ⟨id, mem, chunk, rows, log, heads⟩ with
  | false =>
    rw [ask_no hm, if_neg (by simp)]
    have CT := Lib.hid (fun w1 => tuTable_no id mem chunk rows log heads w1 hm)
    clear hm
    go_enter Try.func8, Try.ntmps8
    go_wp2_with fail
    (with_reducible refine (CT.out _).mono ?_)
    rintro e w1 ⟨rfl, b1⟩
    replace BX := Lib.hid (BX.out.here b1)
    have ha1 : Below w1.heap.size w1 (w1.alloc (.cells #[.int .i64 0, .int .i64 0, .int .i64 0, .int .i64 0, .int .i64 0] 47)) := (Below.refl _ _).alloc (Nat.le_refl _) _
    replace BX := Lib.hid (BX.out.here ha1)
    have BT : Hid (Bx (w1.alloc (.cells #[.int .i64 0, .int .i64 0, .int .i64 0, .int .i64 0, .int .i64 0] 47)) w1.heap.size [.int .i64 0, .int .i64 0, .int .i64 0, .int .i64 0, .int .i64 0]) := Bx.new w1 [.int .i64 0, .int .i64 0, .int .i64 0, .int .i64 0, .int .i64 0] 47
    have B1 := Lib.hid (thence B0.out (thence b1 ha1 (Nat.le_refl _)) (Nat.le_refl _))
    clear ha1
    clear b1 B0
    obtain ⟨c0, c1, c2, c3, c4, c5⟩ := BX.out.six
    have ltBX := BX.out.lt
    obtain ⟨r0, r1, r2, r3, r4⟩ := BT.out.five
    have ltBT := BT.out.lt
    go_wp2_with fail
    go_ret2
    exact ⟨rfl, B1.out⟩
  | true =>
    rw [ask_yes hm]
    obtain ⟨⟨m0, m1⟩, ⟨k0, k1⟩, s1, t1⟩ := may_bds id mem chunk rows log heads hm
    have HM := Lib.hid (SK.may_iff.1 hm)
    have CT := Lib.hid (fun w1 => tuTable_yes id mem chunk rows log heads w1 hm)
    clear hm
    by_cases g1 : 0 ≤ s ∧ s < chunk * rows
    case neg =>
      rw [askB_no (fun h => g1 ⟨h.1, h.2.1⟩), if_neg (by simp)]
      have CA := Lib.hid (fun w1 => tuBelow_no _ _ w1 g1)
      clear g1
      generalize chunk * rows * (mem - 1) = bl at *
      generalize chunk * rows = st at *
      go_enter Try.func8, Try.ntmps8
      go_wp2_with fail
      (with_reducible refine (CT.out _).mono ?_)
      rintro e w1 ⟨rfl, b1⟩
      replace BX := Lib.hid (BX.out.here b1)
      have ha1 : Below w1.heap.size w1 (w1.alloc (.cells #[.int .i64 mem, .int .i64 (mem - 1), .int .i64 chunk, .int .i64 st, .int .i64 bl] 47)) := (Below.refl _ _).alloc (Nat.le_refl _) _
      replace BX := Lib.hid (BX.out.here ha1)
      have BT : Hid (Bx (w1.alloc (.cells #[.int .i64 mem, .int .i64 (mem - 1), .int .i64 chunk, .int .i64 st, .int .i64 bl] 47)) w1.heap.size [.int .i64 mem, .int .i64 (mem - 1), .int .i64 chunk, .int .i64 st, .int .i64 bl]) := Bx.new w1 [.int .i64 mem, .int .i64 (mem - 1), .int .i64 chunk, .int .i64 st, .int .i64 bl] 47
      have B1 := Lib.hid (thence B0.out (thence b1 ha1 (Nat.le_refl _)) (Nat.le_refl _))
      clear ha1
      clear b1 B0
      obtain ⟨c0, c1, c2, c3, c4, c5⟩ := BX.out.six
      have ltBX := BX.out.lt
      obtain ⟨r0, r1, r2, r3, r4⟩ := BT.out.five
      have ltBT := BT.out.lt
      go_wp2_with fail
      (with_reducible refine (CA.out _).mono ?_)
      rintro e w2 ⟨rfl, b2⟩
      clear c0 c1 c2 c3 c4 c5 r0 r1 r2 r3 r4 ltBX ltBT
      replace BX := Lib.hid (BX.out.here b2)
      replace BT := Lib.hid (BT.out.here b2)
      have B2 := Lib.hid (thence B1.out b2 (Nat.le_refl _))
      clear b2 B1
      obtain ⟨c0, c1, c2, c3, c4, c5⟩ := BX.out.six
      have ltBX := BX.out.lt
      obtain ⟨r0, r1, r2, r3, r4⟩ := BT.out.five
      have ltBT := BT.out.lt
      go_wp2_with fail
      go_ret2
      exact ⟨rfl, B2.out⟩
    have CA := Lib.hid (fun w1 => tuBelow_yes _ _ w1 g1)
    by_cases g2 : 0 ≤ k ∧ k < mem - 1
    case neg =>
      rw [askB_no (fun h => g2 ⟨h.2.2.1, h.2.2.2⟩), if_neg (by simp)]
      have CD := Lib.hid (fun w1 => tuBelow_no _ _ w1 g2)
      clear g1 g2
      generalize chunk * rows * (mem - 1) = bl at *
      generalize chunk * rows = st at *
      go_enter Try.func8, Try.ntmps8
      go_wp2_with fail
      (with_reducible refine (CT.out _).mono ?_)
      rintro e w1 ⟨rfl, b1⟩
      replace BX := Lib.hid (BX.out.here b1)
      have ha1 : Below w1.heap.size w1 (w1.alloc (.cells #[.int .i64 mem, .int .i64 (mem - 1), .int .i64 chunk, .int .i64 st, .int .i64 bl] 47)) := (Below.refl _ _).alloc (Nat.le_refl _) _
      replace BX := Lib.hid (BX.out.here ha1)
      have BT : Hid (Bx (w1.alloc (.cells #[.int .i64 mem, .int .i64 (mem - 1), .int .i64 chunk, .int .i64 st, .int .i64 bl] 47)) w1.heap.size [.int .i64 mem, .int .i64 (mem - 1), .int .i64 chunk, .int .i64 st, .int .i64 bl]) := Bx.new w1 [.int .i64 mem, .int .i64 (mem - 1), .int .i64 chunk, .int .i64 st, .int .i64 bl] 47
      have B1 := Lib.hid (thence B0.out (thence b1 ha1 (Nat.le_refl _)) (Nat.le_refl _))
      clear ha1
      clear b1 B0
      obtain ⟨c0, c1, c2, c3, c4, c5⟩ := BX.out.six
      have ltBX := BX.out.lt
      obtain ⟨r0, r1, r2, r3, r4⟩ := BT.out.five
      have ltBT := BT.out.lt
      go_wp2_with fail
      (with_reducible refine (CA.out _).mono ?_)
      rintro e w2 ⟨rfl, b2⟩
      clear c0 c1 c2 c3 c4 c5 r0 r1 r2 r3 r4 ltBX ltBT
      replace BX := Lib.hid (BX.out.here b2)
      replace BT := Lib.hid (BT.out.here b2)
      have B2 := Lib.hid (thence B1.out b2 (Nat.le_refl _))
      clear b2 B1
      obtain ⟨c0, c1, c2, c3, c4, c5⟩ := BX.out.six
      have ltBX := BX.out.lt
      obtain ⟨r0, r1, r2, r3, r4⟩ := BT.out.five
      have ltBT := BT.out.lt
      go_wp2_with fail
      (with_reducible refine (CD.out _).mono ?_)
      rintro e w3 ⟨rfl, b3⟩
      clear c0 c1 c2 c3 c4 c5 r0 r1 r2 r3 r4 ltBX ltBT
      replace BX := Lib.hid (BX.out.here b3)
      replace BT := Lib.hid (BT.out.here b3)
      have B3 := Lib.hid (thence B2.out b3 (Nat.le_refl _))
      clear b3 B2
      obtain ⟨c0, c1, c2, c3, c4, c5⟩ := BX.out.six
      have ltBX := BX.out.lt
      obtain ⟨r0, r1, r2, r3, r4⟩ := BT.out.five
      have ltBT := BT.out.lt
      go_wp2_with fail
      go_ret2
      exact ⟨rfl, B3.out⟩
    have CD := Lib.hid (fun w1 => tuBelow_yes _ _ w1 g2)
    rw [askB_yes ⟨g1.1, g1.2, g2.1, g2.2⟩, if_pos rfl]
    have CV : Hid (∀ w1, Calls Try.prog 23 #[.agg #[.int .i64 mem, .int .i64 (mem - 1), .int .i64 chunk, .int .i64 (chunk * rows), .int .i64 (chunk * rows * (mem - 1))], .int .i64 s, .int .i64 k] w1 fun e w' => e = .returned (.int .i64 (TK.blockAt ⟨id, mem, chunk, rows, log, heads⟩ s k)) ∧ Below w1.heap.size w1 w') := fun w1 => tuBlockIn_any mem (mem - 1) chunk (chunk * rows) (chunk * rows * (mem - 1)) s k w1 (by omega) (by omega) (by omega) (by omega) (by omega) (by omega)
    clear g1 g2
    generalize TK.blockAt ⟨id, mem, chunk, rows, log, heads⟩ s k = v at *
    generalize chunk * rows * (mem - 1) = bl at *
    generalize chunk * rows = st at *
    go_enter Try.func8, Try.ntmps8
    go_wp2_with fail
    (with_reducible refine (CT.out _).mono ?_)
    rintro e w1 ⟨rfl, b1⟩
    replace BX := Lib.hid (BX.out.here b1)
    have ha1 : Below w1.heap.size w1 (w1.alloc (.cells #[.int .i64 mem, .int .i64 (mem - 1), .int .i64 chunk, .int .i64 st, .int .i64 bl] 47)) := (Below.refl _ _).alloc (Nat.le_refl _) _
    replace BX := Lib.hid (BX.out.here ha1)
    have BT : Hid (Bx (w1.alloc (.cells #[.int .i64 mem, .int .i64 (mem - 1), .int .i64 chunk, .int .i64 st, .int .i64 bl] 47)) w1.heap.size [.int .i64 mem, .int .i64 (mem - 1), .int .i64 chunk, .int .i64 st, .int .i64 bl]) := Bx.new w1 [.int .i64 mem, .int .i64 (mem - 1), .int .i64 chunk, .int .i64 st, .int .i64 bl] 47
    have B1 := Lib.hid (thence B0.out (thence b1 ha1 (Nat.le_refl _)) (Nat.le_refl _))
    clear ha1
    clear b1 B0
    obtain ⟨c0, c1, c2, c3, c4, c5⟩ := BX.out.six
    have ltBX := BX.out.lt
    obtain ⟨r0, r1, r2, r3, r4⟩ := BT.out.five
    have ltBT := BT.out.lt
    go_wp2_with fail
    (with_reducible refine (CA.out _).mono ?_)
    rintro e w2 ⟨rfl, b2⟩
    clear c0 c1 c2 c3 c4 c5 r0 r1 r2 r3 r4 ltBX ltBT
    replace BX := Lib.hid (BX.out.here b2)
    replace BT := Lib.hid (BT.out.here b2)
    have B2 := Lib.hid (thence B1.out b2 (Nat.le_refl _))
    clear b2 B1
    obtain ⟨c0, c1, c2, c3, c4, c5⟩ := BX.out.six
    have ltBX := BX.out.lt
    obtain ⟨r0, r1, r2, r3, r4⟩ := BT.out.five
    have ltBT := BT.out.lt
    go_wp2_with fail
    (with_reducible refine (CD.out _).mono ?_)
    rintro e w3 ⟨rfl, b3⟩
    clear c0 c1 c2 c3 c4 c5 r0 r1 r2 r3 r4 ltBX ltBT
    replace BX := Lib.hid (BX.out.here b3)
    replace BT := Lib.hid (BT.out.here b3)
    have B3 := Lib.hid (thence B2.out b3 (Nat.le_refl _))
    clear b3 B2
    obtain ⟨c0, c1, c2, c3, c4, c5⟩ := BX.out.six
    have ltBX := BX.out.lt
    obtain ⟨r0, r1, r2, r3, r4⟩ := BT.out.five
    have ltBT := BT.out.lt
    go_wp2_with fail
    (with_reducible refine (CV.out _).mono ?_)
    rintro e w4 ⟨rfl, b4⟩
    clear c0 c1 c2 c3 c4 c5 r0 r1 r2 r3 r4 ltBX ltBT
    replace BX := Lib.hid (BX.out.here b4)
    replace BT := Lib.hid (BT.out.here b4)
    have B4 := Lib.hid (thence B3.out b4 (Nat.le_refl _))
    clear b4 B3
    obtain ⟨c0, c1, c2, c3, c4, c5⟩ := BX.out.six
    have ltBX := BX.out.lt
    obtain ⟨r0, r1, r2, r3, r4⟩ := BT.out.five
    have ltBT := BT.out.lt
    go_wp2_with fail
    go_ret2
    exact ⟨rfl, B4.out⟩

set_option maxHeartbeats 2000000 in
theorem tuMember_is (id : Nat) (mem chunk rows log heads : Int) (s k : Int) (w : World) :
    Calls Try.prog 10 #[.agg #[.int .u32 (id : Int), .int .i64 mem, .int .i64 chunk, .int .i64 rows, .int .i64 log, .int .i64 heads], .int .i64 s, .int .i64 k] w fun e w' => e = .returned (.tuple #[.int .i64 (if ask ⟨id, mem, chunk, rows, log, heads⟩ s (chunk * rows) k (mem) = 0 then TK.memberOf ⟨id, mem, chunk, rows, log, heads⟩ s k else 0), .int .i64 ((ask ⟨id, mem, chunk, rows, log, heads⟩ s (chunk * rows) k (mem) : Nat) : Int)]) ∧ Below w.heap.size w w' := by
  have B0 : Hid (Below w.heap.size w (w.alloc (.cells #[.int .u32 (id : Int), .int .i64 mem, .int .i64 chunk, .int .i64 rows, .int .i64 log, .int .i64 heads] 27))) := (Below.refl _ _).alloc (Nat.le_refl _) _
  have BX := Lib.hid (Bx.new w [.int .u32 (id : Int), .int .i64 mem, .int .i64 chunk, .int .i64 rows, .int .i64 log, .int .i64 heads] 27)
  cases hm : Cfg.may ⟨id, mem, chunk, rows, log, heads⟩ with
  | false =>
    rw [ask_no hm, if_neg (by simp)]
    have CT := Lib.hid (fun w1 => tuTable_no id mem chunk rows log heads w1 hm)
    clear hm
    go_enter Try.func10, Try.ntmps10
    go_wp2_with fail
    (with_reducible refine (CT.out _).mono ?_)
    rintro e w1 ⟨rfl, b1⟩
    replace BX := Lib.hid (BX.out.here b1)
    have ha1 : Below w1.heap.size w1 (w1.alloc (.cells #[.int .i64 0, .int .i64 0, .int .i64 0, .int .i64 0, .int .i64 0] 47)) := (Below.refl _ _).alloc (Nat.le_refl _) _
    replace BX := Lib.hid (BX.out.here ha1)
    have BT : Hid (Bx (w1.alloc (.cells #[.int .i64 0, .int .i64 0, .int .i64 0, .int .i64 0, .int .i64 0] 47)) w1.heap.size [.int .i64 0, .int .i64 0, .int .i64 0, .int .i64 0, .int .i64 0]) := Bx.new w1 [.int .i64 0, .int .i64 0, .int .i64 0, .int .i64 0, .int .i64 0] 47
    have B1 := Lib.hid (thence B0.out (thence b1 ha1 (Nat.le_refl _)) (Nat.le_refl _))
    clear ha1
    clear b1 B0
    obtain ⟨c0, c1, c2, c3, c4, c5⟩ := BX.out.six
    have ltBX := BX.out.lt
    obtain ⟨r0, r1, r2, r3, r4⟩ := BT.out.five
    have ltBT := BT.out.lt
    go_wp2_with fail
    go_ret2
    exact ⟨rfl, B1.out⟩
  | true =>
    rw [ask_yes hm]
    obtain ⟨⟨m0, m1⟩, ⟨k0, k1⟩, s1, t1⟩ := may_bds id mem chunk rows log heads hm
    have HM := Lib.hid (SK.may_iff.1 hm)
    have CT := Lib.hid (fun w1 => tuTable_yes id mem chunk rows log heads w1 hm)
    clear hm
    by_cases g1 : 0 ≤ s ∧ s < chunk * rows
    case neg =>
      rw [askB_no (fun h => g1 ⟨h.1, h.2.1⟩), if_neg (by simp)]
      have CA := Lib.hid (fun w1 => tuBelow_no _ _ w1 g1)
      clear g1
      generalize chunk * rows * (mem - 1) = bl at *
      generalize chunk * rows = st at *
      go_enter Try.func10, Try.ntmps10
      go_wp2_with fail
      (with_reducible refine (CT.out _).mono ?_)
      rintro e w1 ⟨rfl, b1⟩
      replace BX := Lib.hid (BX.out.here b1)
      have ha1 : Below w1.heap.size w1 (w1.alloc (.cells #[.int .i64 mem, .int .i64 (mem - 1), .int .i64 chunk, .int .i64 st, .int .i64 bl] 47)) := (Below.refl _ _).alloc (Nat.le_refl _) _
      replace BX := Lib.hid (BX.out.here ha1)
      have BT : Hid (Bx (w1.alloc (.cells #[.int .i64 mem, .int .i64 (mem - 1), .int .i64 chunk, .int .i64 st, .int .i64 bl] 47)) w1.heap.size [.int .i64 mem, .int .i64 (mem - 1), .int .i64 chunk, .int .i64 st, .int .i64 bl]) := Bx.new w1 [.int .i64 mem, .int .i64 (mem - 1), .int .i64 chunk, .int .i64 st, .int .i64 bl] 47
      have B1 := Lib.hid (thence B0.out (thence b1 ha1 (Nat.le_refl _)) (Nat.le_refl _))
      clear ha1
      clear b1 B0
      obtain ⟨c0, c1, c2, c3, c4, c5⟩ := BX.out.six
      have ltBX := BX.out.lt
      obtain ⟨r0, r1, r2, r3, r4⟩ := BT.out.five
      have ltBT := BT.out.lt
      go_wp2_with fail
      (with_reducible refine (CA.out _).mono ?_)
      rintro e w2 ⟨rfl, b2⟩
      clear c0 c1 c2 c3 c4 c5 r0 r1 r2 r3 r4 ltBX ltBT
      replace BX := Lib.hid (BX.out.here b2)
      replace BT := Lib.hid (BT.out.here b2)
      have B2 := Lib.hid (thence B1.out b2 (Nat.le_refl _))
      clear b2 B1
      obtain ⟨c0, c1, c2, c3, c4, c5⟩ := BX.out.six
      have ltBX := BX.out.lt
      obtain ⟨r0, r1, r2, r3, r4⟩ := BT.out.five
      have ltBT := BT.out.lt
      go_wp2_with fail
      go_ret2
      exact ⟨rfl, B2.out⟩
    have CA := Lib.hid (fun w1 => tuBelow_yes _ _ w1 g1)
    by_cases g2 : 0 ≤ k ∧ k < mem
    case neg =>
      rw [askB_no (fun h => g2 ⟨h.2.2.1, h.2.2.2⟩), if_neg (by simp)]
      have CD := Lib.hid (fun w1 => tuBelow_no _ _ w1 g2)
      clear g1 g2
      generalize chunk * rows * (mem - 1) = bl at *
      generalize chunk * rows = st at *
      go_enter Try.func10, Try.ntmps10
      go_wp2_with fail
      (with_reducible refine (CT.out _).mono ?_)
      rintro e w1 ⟨rfl, b1⟩
      replace BX := Lib.hid (BX.out.here b1)
      have ha1 : Below w1.heap.size w1 (w1.alloc (.cells #[.int .i64 mem, .int .i64 (mem - 1), .int .i64 chunk, .int .i64 st, .int .i64 bl] 47)) := (Below.refl _ _).alloc (Nat.le_refl _) _
      replace BX := Lib.hid (BX.out.here ha1)
      have BT : Hid (Bx (w1.alloc (.cells #[.int .i64 mem, .int .i64 (mem - 1), .int .i64 chunk, .int .i64 st, .int .i64 bl] 47)) w1.heap.size [.int .i64 mem, .int .i64 (mem - 1), .int .i64 chunk, .int .i64 st, .int .i64 bl]) := Bx.new w1 [.int .i64 mem, .int .i64 (mem - 1), .int .i64 chunk, .int .i64 st, .int .i64 bl] 47
      have B1 := Lib.hid (thence B0.out (thence b1 ha1 (Nat.le_refl _)) (Nat.le_refl _))
      clear ha1
      clear b1 B0
      obtain ⟨c0, c1, c2, c3, c4, c5⟩ := BX.out.six
      have ltBX := BX.out.lt
      obtain ⟨r0, r1, r2, r3, r4⟩ := BT.out.five
      have ltBT := BT.out.lt
      go_wp2_with fail
      (with_reducible refine (CA.out _).mono ?_)
      rintro e w2 ⟨rfl, b2⟩
      clear c0 c1 c2 c3 c4 c5 r0 r1 r2 r3 r4 ltBX ltBT
      replace BX := Lib.hid (BX.out.here b2)
      replace BT := Lib.hid (BT.out.here b2)
      have B2 := Lib.hid (thence B1.out b2 (Nat.le_refl _))
      clear b2 B1
      obtain ⟨c0, c1, c2, c3, c4, c5⟩ := BX.out.six
      have ltBX := BX.out.lt
      obtain ⟨r0, r1, r2, r3, r4⟩ := BT.out.five
      have ltBT := BT.out.lt
      go_wp2_with fail
      (with_reducible refine (CD.out _).mono ?_)
      rintro e w3 ⟨rfl, b3⟩
      clear c0 c1 c2 c3 c4 c5 r0 r1 r2 r3 r4 ltBX ltBT
      replace BX := Lib.hid (BX.out.here b3)
      replace BT := Lib.hid (BT.out.here b3)
      have B3 := Lib.hid (thence B2.out b3 (Nat.le_refl _))
      clear b3 B2
      obtain ⟨c0, c1, c2, c3, c4, c5⟩ := BX.out.six
      have ltBX := BX.out.lt
      obtain ⟨r0, r1, r2, r3, r4⟩ := BT.out.five
      have ltBT := BT.out.lt
      go_wp2_with fail
      go_ret2
      exact ⟨rfl, B3.out⟩
    have CD := Lib.hid (fun w1 => tuBelow_yes _ _ w1 g2)
    rw [askB_yes ⟨g1.1, g1.2, g2.1, g2.2⟩, if_pos rfl]
    have CV : Hid (∀ w1, Calls Try.prog 24 #[.agg #[.int .i64 mem, .int .i64 (mem - 1), .int .i64 chunk, .int .i64 (chunk * rows), .int .i64 (chunk * rows * (mem - 1))], .int .i64 s, .int .i64 k] w1 fun e w' => e = .returned (.int .i64 (TK.memberOf ⟨id, mem, chunk, rows, log, heads⟩ s k)) ∧ Below w1.heap.size w1 w') := fun w1 => tuMemberIn_any mem (mem - 1) chunk (chunk * rows) (chunk * rows * (mem - 1)) s k w1 (by omega) (by omega) (by omega) (by omega) (by omega) (by omega)
    clear g1 g2
    generalize TK.memberOf ⟨id, mem, chunk, rows, log, heads⟩ s k = v at *
    generalize chunk * rows * (mem - 1) = bl at *
    generalize chunk * rows = st at *
    go_enter Try.func10, Try.ntmps10
    go_wp2_with fail
    (with_reducible refine (CT.out _).mono ?_)
    rintro e w1 ⟨rfl, b1⟩
    replace BX := Lib.hid (BX.out.here b1)
    have ha1 : Below w1.heap.size w1 (w1.alloc (.cells #[.int .i64 mem, .int .i64 (mem - 1), .int .i64 chunk, .int .i64 st, .int .i64 bl] 47)) := (Below.refl _ _).alloc (Nat.le_refl _) _
    replace BX := Lib.hid (BX.out.here ha1)
    have BT : Hid (Bx (w1.alloc (.cells #[.int .i64 mem, .int .i64 (mem - 1), .int .i64 chunk, .int .i64 st, .int .i64 bl] 47)) w1.heap.size [.int .i64 mem, .int .i64 (mem - 1), .int .i64 chunk, .int .i64 st, .int .i64 bl]) := Bx.new w1 [.int .i64 mem, .int .i64 (mem - 1), .int .i64 chunk, .int .i64 st, .int .i64 bl] 47
    have B1 := Lib.hid (thence B0.out (thence b1 ha1 (Nat.le_refl _)) (Nat.le_refl _))
    clear ha1
    clear b1 B0
    obtain ⟨c0, c1, c2, c3, c4, c5⟩ := BX.out.six
    have ltBX := BX.out.lt
    obtain ⟨r0, r1, r2, r3, r4⟩ := BT.out.five
    have ltBT := BT.out.lt
    go_wp2_with fail
    (with_reducible refine (CA.out _).mono ?_)
    rintro e w2 ⟨rfl, b2⟩
    clear c0 c1 c2 c3 c4 c5 r0 r1 r2 r3 r4 ltBX ltBT
    replace BX := Lib.hid (BX.out.here b2)
    replace BT := Lib.hid (BT.out.here b2)
    have B2 := Lib.hid (thence B1.out b2 (Nat.le_refl _))
    clear b2 B1
    obtain ⟨c0, c1, c2, c3, c4, c5⟩ := BX.out.six
    have ltBX := BX.out.lt
    obtain ⟨r0, r1, r2, r3, r4⟩ := BT.out.five
    have ltBT := BT.out.lt
    go_wp2_with fail
    (with_reducible refine (CD.out _).mono ?_)
    rintro e w3 ⟨rfl, b3⟩
    clear c0 c1 c2 c3 c4 c5 r0 r1 r2 r3 r4 ltBX ltBT
    replace BX := Lib.hid (BX.out.here b3)
    replace BT := Lib.hid (BT.out.here b3)
    have B3 := Lib.hid (thence B2.out b3 (Nat.le_refl _))
    clear b3 B2
    obtain ⟨c0, c1, c2, c3, c4, c5⟩ := BX.out.six
    have ltBX := BX.out.lt
    obtain ⟨r0, r1, r2, r3, r4⟩ := BT.out.five
    have ltBT := BT.out.lt
    go_wp2_with fail
    (with_reducible refine (CV.out _).mono ?_)
    rintro e w4 ⟨rfl, b4⟩
    clear c0 c1 c2 c3 c4 c5 r0 r1 r2 r3 r4 ltBX ltBT
    replace BX := Lib.hid (BX.out.here b4)
    replace BT := Lib.hid (BT.out.here b4)
    have B4 := Lib.hid (thence B3.out b4 (Nat.le_refl _))
    clear b4 B3
    obtain ⟨c0, c1, c2, c3, c4, c5⟩ := BX.out.six
    have ltBX := BX.out.lt
    obtain ⟨r0, r1, r2, r3, r4⟩ := BT.out.five
    have ltBT := BT.out.lt
    go_wp2_with fail
    go_ret2
    exact ⟨rfl, B4.out⟩

set_option maxHeartbeats 2000000 in
theorem tuSlot_is (id : Nat) (mem chunk rows log heads : Int) (s m : Int) (w : World) :
    Calls Try.prog 11 #[.agg #[.int .u32 (id : Int), .int .i64 mem, .int .i64 chunk, .int .i64 rows, .int .i64 log, .int .i64 heads], .int .i64 s, .int .i64 m] w fun e w' => e = .returned (.tuple #[.int .i64 (if ask ⟨id, mem, chunk, rows, log, heads⟩ s (chunk * rows) m (mem) = 0 then TK.slotOf ⟨id, mem, chunk, rows, log, heads⟩ s m else 0), .int .i64 ((ask ⟨id, mem, chunk, rows, log, heads⟩ s (chunk * rows) m (mem) : Nat) : Int)]) ∧ Below w.heap.size w w' := by
  have B0 : Hid (Below w.heap.size w (w.alloc (.cells #[.int .u32 (id : Int), .int .i64 mem, .int .i64 chunk, .int .i64 rows, .int .i64 log, .int .i64 heads] 27))) := (Below.refl _ _).alloc (Nat.le_refl _) _
  have BX := Lib.hid (Bx.new w [.int .u32 (id : Int), .int .i64 mem, .int .i64 chunk, .int .i64 rows, .int .i64 log, .int .i64 heads] 27)
  cases hm : Cfg.may ⟨id, mem, chunk, rows, log, heads⟩ with
  | false =>
    rw [ask_no hm, if_neg (by simp)]
    have CT := Lib.hid (fun w1 => tuTable_no id mem chunk rows log heads w1 hm)
    clear hm
    go_enter Try.func11, Try.ntmps11
    go_wp2_with fail
    (with_reducible refine (CT.out _).mono ?_)
    rintro e w1 ⟨rfl, b1⟩
    replace BX := Lib.hid (BX.out.here b1)
    have ha1 : Below w1.heap.size w1 (w1.alloc (.cells #[.int .i64 0, .int .i64 0, .int .i64 0, .int .i64 0, .int .i64 0] 47)) := (Below.refl _ _).alloc (Nat.le_refl _) _
    replace BX := Lib.hid (BX.out.here ha1)
    have BT : Hid (Bx (w1.alloc (.cells #[.int .i64 0, .int .i64 0, .int .i64 0, .int .i64 0, .int .i64 0] 47)) w1.heap.size [.int .i64 0, .int .i64 0, .int .i64 0, .int .i64 0, .int .i64 0]) := Bx.new w1 [.int .i64 0, .int .i64 0, .int .i64 0, .int .i64 0, .int .i64 0] 47
    have B1 := Lib.hid (thence B0.out (thence b1 ha1 (Nat.le_refl _)) (Nat.le_refl _))
    clear ha1
    clear b1 B0
    obtain ⟨c0, c1, c2, c3, c4, c5⟩ := BX.out.six
    have ltBX := BX.out.lt
    obtain ⟨r0, r1, r2, r3, r4⟩ := BT.out.five
    have ltBT := BT.out.lt
    go_wp2_with fail
    go_ret2
    exact ⟨rfl, B1.out⟩
  | true =>
    rw [ask_yes hm]
    obtain ⟨⟨m0, m1⟩, ⟨k0, k1⟩, s1, t1⟩ := may_bds id mem chunk rows log heads hm
    have HM := Lib.hid (SK.may_iff.1 hm)
    have CT := Lib.hid (fun w1 => tuTable_yes id mem chunk rows log heads w1 hm)
    clear hm
    by_cases g1 : 0 ≤ s ∧ s < chunk * rows
    case neg =>
      rw [askB_no (fun h => g1 ⟨h.1, h.2.1⟩), if_neg (by simp)]
      have CA := Lib.hid (fun w1 => tuBelow_no _ _ w1 g1)
      clear g1
      generalize chunk * rows * (mem - 1) = bl at *
      generalize chunk * rows = st at *
      go_enter Try.func11, Try.ntmps11
      go_wp2_with fail
      (with_reducible refine (CT.out _).mono ?_)
      rintro e w1 ⟨rfl, b1⟩
      replace BX := Lib.hid (BX.out.here b1)
      have ha1 : Below w1.heap.size w1 (w1.alloc (.cells #[.int .i64 mem, .int .i64 (mem - 1), .int .i64 chunk, .int .i64 st, .int .i64 bl] 47)) := (Below.refl _ _).alloc (Nat.le_refl _) _
      replace BX := Lib.hid (BX.out.here ha1)
      have BT : Hid (Bx (w1.alloc (.cells #[.int .i64 mem, .int .i64 (mem - 1), .int .i64 chunk, .int .i64 st, .int .i64 bl] 47)) w1.heap.size [.int .i64 mem, .int .i64 (mem - 1), .int .i64 chunk, .int .i64 st, .int .i64 bl]) := Bx.new w1 [.int .i64 mem, .int .i64 (mem - 1), .int .i64 chunk, .int .i64 st, .int .i64 bl] 47
      have B1 := Lib.hid (thence B0.out (thence b1 ha1 (Nat.le_refl _)) (Nat.le_refl _))
      clear ha1
      clear b1 B0
      obtain ⟨c0, c1, c2, c3, c4, c5⟩ := BX.out.six
      have ltBX := BX.out.lt
      obtain ⟨r0, r1, r2, r3, r4⟩ := BT.out.five
      have ltBT := BT.out.lt
      go_wp2_with fail
      (with_reducible refine (CA.out _).mono ?_)
      rintro e w2 ⟨rfl, b2⟩
      clear c0 c1 c2 c3 c4 c5 r0 r1 r2 r3 r4 ltBX ltBT
      replace BX := Lib.hid (BX.out.here b2)
      replace BT := Lib.hid (BT.out.here b2)
      have B2 := Lib.hid (thence B1.out b2 (Nat.le_refl _))
      clear b2 B1
      obtain ⟨c0, c1, c2, c3, c4, c5⟩ := BX.out.six
      have ltBX := BX.out.lt
      obtain ⟨r0, r1, r2, r3, r4⟩ := BT.out.five
      have ltBT := BT.out.lt
      go_wp2_with fail
      go_ret2
      exact ⟨rfl, B2.out⟩
    have CA := Lib.hid (fun w1 => tuBelow_yes _ _ w1 g1)
    by_cases g2 : 0 ≤ m ∧ m < mem
    case neg =>
      rw [askB_no (fun h => g2 ⟨h.2.2.1, h.2.2.2⟩), if_neg (by simp)]
      have CD := Lib.hid (fun w1 => tuBelow_no _ _ w1 g2)
      clear g1 g2
      generalize chunk * rows * (mem - 1) = bl at *
      generalize chunk * rows = st at *
      go_enter Try.func11, Try.ntmps11
      go_wp2_with fail
      (with_reducible refine (CT.out _).mono ?_)
      rintro e w1 ⟨rfl, b1⟩
      replace BX := Lib.hid (BX.out.here b1)
      have ha1 : Below w1.heap.size w1 (w1.alloc (.cells #[.int .i64 mem, .int .i64 (mem - 1), .int .i64 chunk, .int .i64 st, .int .i64 bl] 47)) := (Below.refl _ _).alloc (Nat.le_refl _) _
      replace BX := Lib.hid (BX.out.here ha1)
      have BT : Hid (Bx (w1.alloc (.cells #[.int .i64 mem, .int .i64 (mem - 1), .int .i64 chunk, .int .i64 st, .int .i64 bl] 47)) w1.heap.size [.int .i64 mem, .int .i64 (mem - 1), .int .i64 chunk, .int .i64 st, .int .i64 bl]) := Bx.new w1 [.int .i64 mem, .int .i64 (mem - 1), .int .i64 chunk, .int .i64 st, .int .i64 bl] 47
      have B1 := Lib.hid (thence B0.out (thence b1 ha1 (Nat.le_refl _)) (Nat.le_refl _))
      clear ha1
      clear b1 B0
      obtain ⟨c0, c1, c2, c3, c4, c5⟩ := BX.out.six
      have ltBX := BX.out.lt
      obtain ⟨r0, r1, r2, r3, r4⟩ := BT.out.five
      have ltBT := BT.out.lt
      go_wp2_with fail
      (with_reducible refine (CA.out _).mono ?_)
      rintro e w2 ⟨rfl, b2⟩
      clear c0 c1 c2 c3 c4 c5 r0 r1 r2 r3 r4 ltBX ltBT
      replace BX := Lib.hid (BX.out.here b2)
      replace BT := Lib.hid (BT.out.here b2)
      have B2 := Lib.hid (thence B1.out b2 (Nat.le_refl _))
      clear b2 B1
      obtain ⟨c0, c1, c2, c3, c4, c5⟩ := BX.out.six
      have ltBX := BX.out.lt
      obtain ⟨r0, r1, r2, r3, r4⟩ := BT.out.five
      have ltBT := BT.out.lt
      go_wp2_with fail
      (with_reducible refine (CD.out _).mono ?_)
      rintro e w3 ⟨rfl, b3⟩
      clear c0 c1 c2 c3 c4 c5 r0 r1 r2 r3 r4 ltBX ltBT
      replace BX := Lib.hid (BX.out.here b3)
      replace BT := Lib.hid (BT.out.here b3)
      have B3 := Lib.hid (thence B2.out b3 (Nat.le_refl _))
      clear b3 B2
      obtain ⟨c0, c1, c2, c3, c4, c5⟩ := BX.out.six
      have ltBX := BX.out.lt
      obtain ⟨r0, r1, r2, r3, r4⟩ := BT.out.five
      have ltBT := BT.out.lt
      go_wp2_with fail
      go_ret2
      exact ⟨rfl, B3.out⟩
    have CD := Lib.hid (fun w1 => tuBelow_yes _ _ w1 g2)
    rw [askB_yes ⟨g1.1, g1.2, g2.1, g2.2⟩, if_pos rfl]
    have CV : Hid (∀ w1, Calls Try.prog 25 #[.agg #[.int .i64 mem, .int .i64 (mem - 1), .int .i64 chunk, .int .i64 (chunk * rows), .int .i64 (chunk * rows * (mem - 1))], .int .i64 s, .int .i64 m] w1 fun e w' => e = .returned (.int .i64 (TK.slotOf ⟨id, mem, chunk, rows, log, heads⟩ s m)) ∧ Below w1.heap.size w1 w') := fun w1 => tuSlotIn_any mem (mem - 1) chunk (chunk * rows) (chunk * rows * (mem - 1)) s m w1 (by omega) (by omega) (by omega) (by omega) (by omega) (by omega)
    clear g1 g2
    generalize TK.slotOf ⟨id, mem, chunk, rows, log, heads⟩ s m = v at *
    generalize chunk * rows * (mem - 1) = bl at *
    generalize chunk * rows = st at *
    go_enter Try.func11, Try.ntmps11
    go_wp2_with fail
    (with_reducible refine (CT.out _).mono ?_)
    rintro e w1 ⟨rfl, b1⟩
    replace BX := Lib.hid (BX.out.here b1)
    have ha1 : Below w1.heap.size w1 (w1.alloc (.cells #[.int .i64 mem, .int .i64 (mem - 1), .int .i64 chunk, .int .i64 st, .int .i64 bl] 47)) := (Below.refl _ _).alloc (Nat.le_refl _) _
    replace BX := Lib.hid (BX.out.here ha1)
    have BT : Hid (Bx (w1.alloc (.cells #[.int .i64 mem, .int .i64 (mem - 1), .int .i64 chunk, .int .i64 st, .int .i64 bl] 47)) w1.heap.size [.int .i64 mem, .int .i64 (mem - 1), .int .i64 chunk, .int .i64 st, .int .i64 bl]) := Bx.new w1 [.int .i64 mem, .int .i64 (mem - 1), .int .i64 chunk, .int .i64 st, .int .i64 bl] 47
    have B1 := Lib.hid (thence B0.out (thence b1 ha1 (Nat.le_refl _)) (Nat.le_refl _))
    clear ha1
    clear b1 B0
    obtain ⟨c0, c1, c2, c3, c4, c5⟩ := BX.out.six
    have ltBX := BX.out.lt
    obtain ⟨r0, r1, r2, r3, r4⟩ := BT.out.five
    have ltBT := BT.out.lt
    go_wp2_with fail
    (with_reducible refine (CA.out _).mono ?_)
    rintro e w2 ⟨rfl, b2⟩
    clear c0 c1 c2 c3 c4 c5 r0 r1 r2 r3 r4 ltBX ltBT
    replace BX := Lib.hid (BX.out.here b2)
    replace BT := Lib.hid (BT.out.here b2)
    have B2 := Lib.hid (thence B1.out b2 (Nat.le_refl _))
    clear b2 B1
    obtain ⟨c0, c1, c2, c3, c4, c5⟩ := BX.out.six
    have ltBX := BX.out.lt
    obtain ⟨r0, r1, r2, r3, r4⟩ := BT.out.five
    have ltBT := BT.out.lt
    go_wp2_with fail
    (with_reducible refine (CD.out _).mono ?_)
    rintro e w3 ⟨rfl, b3⟩
    clear c0 c1 c2 c3 c4 c5 r0 r1 r2 r3 r4 ltBX ltBT
    replace BX := Lib.hid (BX.out.here b3)
    replace BT := Lib.hid (BT.out.here b3)
    have B3 := Lib.hid (thence B2.out b3 (Nat.le_refl _))
    clear b3 B2
    obtain ⟨c0, c1, c2, c3, c4, c5⟩ := BX.out.six
    have ltBX := BX.out.lt
    obtain ⟨r0, r1, r2, r3, r4⟩ := BT.out.five
    have ltBT := BT.out.lt
    go_wp2_with fail
    (with_reducible refine (CV.out _).mono ?_)
    rintro e w4 ⟨rfl, b4⟩
    clear c0 c1 c2 c3 c4 c5 r0 r1 r2 r3 r4 ltBX ltBT
    replace BX := Lib.hid (BX.out.here b4)
    replace BT := Lib.hid (BT.out.here b4)
    have B4 := Lib.hid (thence B3.out b4 (Nat.le_refl _))
    clear b4 B3
    obtain ⟨c0, c1, c2, c3, c4, c5⟩ := BX.out.six
    have ltBX := BX.out.lt
    obtain ⟨r0, r1, r2, r3, r4⟩ := BT.out.five
    have ltBT := BT.out.lt
    go_wp2_with fail
    go_ret2
    exact ⟨rfl, B4.out⟩

set_option maxHeartbeats 2000000 in
theorem tuParity_is (id : Nat) (mem chunk rows log heads : Int) (s : Int) (w : World) :
    Calls Try.prog 16 #[.agg #[.int .u32 (id : Int), .int .i64 mem, .int .i64 chunk, .int .i64 rows, .int .i64 log, .int .i64 heads], .int .i64 s] w fun e w' => e = .returned (.tuple #[.int .i64 (if ask ⟨id, mem, chunk, rows, log, heads⟩ s (chunk * rows) 0 1 = 0 then TK.parityOf ⟨id, mem, chunk, rows, log, heads⟩ s else 0), .int .i64 ((ask ⟨id, mem, chunk, rows, log, heads⟩ s (chunk * rows) 0 1 : Nat) : Int)]) ∧ Below w.heap.size w w' := by
  have B0 : Hid (Below w.heap.size w (w.alloc (.cells #[.int .u32 (id : Int), .int .i64 mem, .int .i64 chunk, .int .i64 rows, .int .i64 log, .int .i64 heads] 27))) := (Below.refl _ _).alloc (Nat.le_refl _) _
  have BX := Lib.hid (Bx.new w [.int .u32 (id : Int), .int .i64 mem, .int .i64 chunk, .int .i64 rows, .int .i64 log, .int .i64 heads] 27)
  obtain ⟨k, hk, hk2⟩ : ∃ k : Int, IntKind.i64.wrap (mem - 1) = k ∧ (Cfg.may ⟨id, mem, chunk, rows, log, heads⟩ = true → k = mem - 1 ∧ 3 ≤ mem) := ⟨_, rfl, fun h => ⟨IntWalk.i64_in _ (by have h1 := (may_bds id mem chunk rows log heads h).1; omega), (may_bds id mem chunk rows log heads h).1.1⟩⟩
  have CM := Lib.hid (fun w1 => tuMember_is id mem chunk rows log heads s k w1)
  have e1 : ask ⟨id, mem, chunk, rows, log, heads⟩ s (chunk * rows) k mem = ask ⟨id, mem, chunk, rows, log, heads⟩ s (chunk * rows) 0 1 := by
    cases hm : Cfg.may ⟨id, mem, chunk, rows, log, heads⟩ with
    | false => rw [ask_no hm, ask_no hm]
    | true =>
      obtain ⟨e, e2⟩ := hk2 hm
      rw [ask_yes hm, ask_yes hm]
      by_cases h : 0 ≤ s ∧ s < chunk * rows
      · rw [askB_yes ⟨h.1, h.2, by omega, by omega⟩, askB_yes ⟨h.1, h.2, by omega, by omega⟩]
      · rw [askB_no (fun x => h ⟨x.1, x.2.1⟩), askB_no (fun x => h ⟨x.1, x.2.1⟩)]
  have e2 : (if ask ⟨id, mem, chunk, rows, log, heads⟩ s (chunk * rows) k mem = 0 then TK.memberOf ⟨id, mem, chunk, rows, log, heads⟩ s k else 0) = (if ask ⟨id, mem, chunk, rows, log, heads⟩ s (chunk * rows) 0 1 = 0 then TK.parityOf ⟨id, mem, chunk, rows, log, heads⟩ s else 0) := by
    rw [e1]
    split
    · rename_i h
      have hm := (ask_iff.1 h).1
      rw [(hk2 (SK.may_iff.2 hm)).1]
      exact TK.member_last hm s
    · rfl
  rw [e2, e1] at CM
  clear e1 e2 hk2
  generalize (if ask ⟨id, mem, chunk, rows, log, heads⟩ s (chunk * rows) 0 1 = 0 then TK.parityOf ⟨id, mem, chunk, rows, log, heads⟩ s else 0) = v at *
  generalize ask ⟨id, mem, chunk, rows, log, heads⟩ s (chunk * rows) 0 1 = q at *
  go_enter Try.func16, Try.ntmps16
  go_wp2_with fail
  (with_reducible refine (CM.out _).mono ?_)
  rintro e w1 ⟨rfl, b1⟩
  replace BX := Lib.hid (BX.out.here b1)
  have B1 := Lib.hid (thence B0.out b1 (Nat.le_refl _))
  clear b1 B0
  obtain ⟨c0, c1, c2, c3, c4, c5⟩ := BX.out.six
  have ltBX := BX.out.lt
  go_wp2_with fail
  go_ret2
  exact ⟨rfl, B1.out⟩

set_option maxHeartbeats 2000000 in
theorem tuSpot_is (id : Nat) (mem chunk rows log heads : Int) (b : Int) (w : World) :
    Calls Try.prog 12 #[.agg #[.int .u32 (id : Int), .int .i64 mem, .int .i64 chunk, .int .i64 rows, .int .i64 log, .int .i64 heads], .int .i64 b] w fun e w' => e = .returned (.tuple #[.agg #[.int .i64 (if ask ⟨id, mem, chunk, rows, log, heads⟩ b (chunk * rows * (mem - 1)) 0 1 = 0 then TK.spotStripe ⟨id, mem, chunk, rows, log, heads⟩ b else 0), .int .i64 (if ask ⟨id, mem, chunk, rows, log, heads⟩ b (chunk * rows * (mem - 1)) 0 1 = 0 then TK.spotSlot ⟨id, mem, chunk, rows, log, heads⟩ b else 0), .int .i64 (if ask ⟨id, mem, chunk, rows, log, heads⟩ b (chunk * rows * (mem - 1)) 0 1 = 0 then TK.spotMember ⟨id, mem, chunk, rows, log, heads⟩ b else 0)], .int .i64 ((ask ⟨id, mem, chunk, rows, log, heads⟩ b (chunk * rows * (mem - 1)) 0 1 : Nat) : Int)]) ∧ Below w.heap.size w w' := by
  have B0 : Hid (Below w.heap.size w ((w.alloc (.cells #[.int .u32 (id : Int), .int .i64 mem, .int .i64 chunk, .int .i64 rows, .int .i64 log, .int .i64 heads] 27)).alloc (.cells #[.int .i64 0, .int .i64 0, .int .i64 0] 30))) := ((Below.refl _ _).alloc (Nat.le_refl _) _).alloc (by simp) _
  have BX : Hid (Bx ((w.alloc (.cells #[.int .u32 (id : Int), .int .i64 mem, .int .i64 chunk, .int .i64 rows, .int .i64 log, .int .i64 heads] 27)).alloc (.cells #[.int .i64 0, .int .i64 0, .int .i64 0] 30)) w.heap.size [.int .u32 (id : Int), .int .i64 mem, .int .i64 chunk, .int .i64 rows, .int .i64 log, .int .i64 heads]) := (Bx.new w [.int .u32 (id : Int), .int .i64 mem, .int .i64 chunk, .int .i64 rows, .int .i64 log, .int .i64 heads] 27).alloc _
  have BR : Hid (Bx ((w.alloc (.cells #[.int .u32 (id : Int), .int .i64 mem, .int .i64 chunk, .int .i64 rows, .int .i64 log, .int .i64 heads] 27)).alloc (.cells #[.int .i64 0, .int .i64 0, .int .i64 0] 30)) (w.heap.size + 1) [.int .i64 0, .int .i64 0, .int .i64 0]) := by have := Bx.new (w.alloc (.cells #[.int .u32 (id : Int), .int .i64 mem, .int .i64 chunk, .int .i64 rows, .int .i64 log, .int .i64 heads] 27)) [.int .i64 0, .int .i64 0, .int .i64 0] 30; rw [World.size_alloc] at this; exact this
  have hS : ((w.alloc (.cells #[.int .u32 (id : Int), .int .i64 mem, .int .i64 chunk, .int .i64 rows, .int .i64 log, .int .i64 heads] 27)).alloc (.cells #[.int .i64 0, .int .i64 0, .int .i64 0] 30)).heap.size = w.heap.size + 2 := by simp
  cases hm : Cfg.may ⟨id, mem, chunk, rows, log, heads⟩ with
  | false =>
    rw [ask_no hm, if_neg (by simp), if_neg (by simp), if_neg (by simp)]
    have CT := Lib.hid (fun w1 => tuTable_no id mem chunk rows log heads w1 hm)
    clear hm
    go_enter Try.func12, Try.ntmps12
    go_wp2_with fail
    (with_reducible refine (CT.out _).mono ?_)
    rintro e w1 ⟨rfl, b1⟩
    replace BX := Lib.hid (BX.out.here b1)
    replace BR := Lib.hid (BR.out.here b1)
    have ha1 : Below w1.heap.size w1 (w1.alloc (.cells #[.int .i64 0, .int .i64 0, .int .i64 0, .int .i64 0, .int .i64 0] 47)) := (Below.refl _ _).alloc (Nat.le_refl _) _
    replace BX := Lib.hid (BX.out.here ha1)
    replace BR := Lib.hid (BR.out.here ha1)
    have BT : Hid (Bx (w1.alloc (.cells #[.int .i64 0, .int .i64 0, .int .i64 0, .int .i64 0, .int .i64 0] 47)) w1.heap.size [.int .i64 0, .int .i64 0, .int .i64 0, .int .i64 0, .int .i64 0]) := Bx.new w1 [.int .i64 0, .int .i64 0, .int .i64 0, .int .i64 0, .int .i64 0] 47
    have B1 := Lib.hid (thence B0.out (thence b1 ha1 (Nat.le_refl _)) (Nat.le_refl _))
    clear ha1
    clear b1 B0
    obtain ⟨c0, c1, c2, c3, c4, c5⟩ := BX.out.six
    have ltBX := BX.out.lt
    obtain ⟨q0, q1, q2⟩ := BR.out.three
    have ltBR := BR.out.lt
    have fzBR0 := BR.out.frozen 0
    have fzBR1 := BR.out.frozen 1
    have fzBR2 := BR.out.frozen 2
    obtain ⟨r0, r1, r2, r3, r4⟩ := BT.out.five
    have ltBT := BT.out.lt
    go_wp2_with fail
    have hb := (((B1.out.setCell (p := ⟨w.heap.size + 1, 0, none⟩) (Nat.le_succ _) (.int .i64 (0))).setCell (p := ⟨w.heap.size + 1, 1, none⟩) (Nat.le_succ _) (.int .i64 (0))).setCell (p := ⟨w.heap.size + 1, 2, none⟩) (Nat.le_succ _) (.int .i64 (0)))
    exact bodyPost_ret (v := .tuple #[.agg #[.int .i64 0, .int .i64 0, .int .i64 0], .int .i64 8]) (by simp [results, Try.results12, go_sem, ltBR, q0, q1, q2]) rfl ⟨rfl, hb⟩
  | true =>
    rw [ask_yes hm]
    obtain ⟨⟨m0, m1⟩, ⟨k0, k1⟩, s1, t1⟩ := may_bds id mem chunk rows log heads hm
    have HM := SK.may_iff.1 hm
    have CT := Lib.hid (fun w1 => tuTable_yes id mem chunk rows log heads w1 hm)
    clear hm
    by_cases g1 : 0 ≤ b ∧ b < chunk * rows * (mem - 1)
    case neg =>
      rw [askB_no (fun h => g1 ⟨h.1, h.2.1⟩), if_neg (by simp), if_neg (by simp), if_neg (by simp)]
      have CA := Lib.hid (fun w1 => tuBelow_no _ _ w1 g1)
      clear g1 HM
      generalize chunk * rows * (mem - 1) = bl at *
      generalize chunk * rows = st at *
      go_enter Try.func12, Try.ntmps12
      go_wp2_with fail
      (with_reducible refine (CT.out _).mono ?_)
      rintro e w1 ⟨rfl, b1⟩
      replace BX := Lib.hid (BX.out.here b1)
      replace BR := Lib.hid (BR.out.here b1)
      have ha1 : Below w1.heap.size w1 (w1.alloc (.cells #[.int .i64 mem, .int .i64 (mem - 1), .int .i64 chunk, .int .i64 st, .int .i64 bl] 47)) := (Below.refl _ _).alloc (Nat.le_refl _) _
      replace BX := Lib.hid (BX.out.here ha1)
      replace BR := Lib.hid (BR.out.here ha1)
      have BT : Hid (Bx (w1.alloc (.cells #[.int .i64 mem, .int .i64 (mem - 1), .int .i64 chunk, .int .i64 st, .int .i64 bl] 47)) w1.heap.size [.int .i64 mem, .int .i64 (mem - 1), .int .i64 chunk, .int .i64 st, .int .i64 bl]) := Bx.new w1 [.int .i64 mem, .int .i64 (mem - 1), .int .i64 chunk, .int .i64 st, .int .i64 bl] 47
      have B1 := Lib.hid (thence B0.out (thence b1 ha1 (Nat.le_refl _)) (Nat.le_refl _))
      clear ha1
      clear b1 B0
      obtain ⟨c0, c1, c2, c3, c4, c5⟩ := BX.out.six
      have ltBX := BX.out.lt
      obtain ⟨q0, q1, q2⟩ := BR.out.three
      have ltBR := BR.out.lt
      have fzBR0 := BR.out.frozen 0
      have fzBR1 := BR.out.frozen 1
      have fzBR2 := BR.out.frozen 2
      obtain ⟨r0, r1, r2, r3, r4⟩ := BT.out.five
      have ltBT := BT.out.lt
      go_wp2_with fail
      (with_reducible refine (CA.out _).mono ?_)
      rintro e w2 ⟨rfl, b2⟩
      clear c0 c1 c2 c3 c4 c5 q0 q1 q2 r0 r1 r2 r3 r4 ltBX ltBR ltBT fzBR0 fzBR1 fzBR2
      replace BX := Lib.hid (BX.out.here b2)
      replace BR := Lib.hid (BR.out.here b2)
      replace BT := Lib.hid (BT.out.here b2)
      have B2 := Lib.hid (thence B1.out b2 (Nat.le_refl _))
      clear b2 B1
      obtain ⟨c0, c1, c2, c3, c4, c5⟩ := BX.out.six
      have ltBX := BX.out.lt
      obtain ⟨q0, q1, q2⟩ := BR.out.three
      have ltBR := BR.out.lt
      have fzBR0 := BR.out.frozen 0
      have fzBR1 := BR.out.frozen 1
      have fzBR2 := BR.out.frozen 2
      obtain ⟨r0, r1, r2, r3, r4⟩ := BT.out.five
      have ltBT := BT.out.lt
      go_wp2_with fail
      have hb := (((B2.out.setCell (p := ⟨w.heap.size + 1, 0, none⟩) (Nat.le_succ _) (.int .i64 (0))).setCell (p := ⟨w.heap.size + 1, 1, none⟩) (Nat.le_succ _) (.int .i64 (0))).setCell (p := ⟨w.heap.size + 1, 2, none⟩) (Nat.le_succ _) (.int .i64 (0)))
      exact bodyPost_ret (v := .tuple #[.agg #[.int .i64 0, .int .i64 0, .int .i64 0], .int .i64 2]) (by simp [results, Try.results12, go_sem, ltBR, q0, q1, q2]) rfl ⟨rfl, hb⟩
    have CA := Lib.hid (fun w1 => tuBelow_yes _ _ w1 g1)
    rw [askB_yes ⟨g1.1, g1.2, by omega, by omega⟩, if_pos rfl, if_pos rfl, if_pos rfl]
    have hsp := TK.spot_bd HM (b := b) g1.1 g1.2
    unfold Cfg.stripes at hsp
    dsimp only at hsp
    have CP : Hid (∀ w1, Calls Try.prog 26 #[.agg #[.int .i64 mem, .int .i64 (mem - 1), .int .i64 chunk, .int .i64 (chunk * rows), .int .i64 (chunk * rows * (mem - 1))], .int .i64 b] w1 fun e w' => e = .returned (.tuple #[.int .i64 (TK.spotStripe ⟨id, mem, chunk, rows, log, heads⟩ b), .int .i64 (TK.spotSlot ⟨id, mem, chunk, rows, log, heads⟩ b)]) ∧ Below w1.heap.size w1 w') := fun w1 => tuPlace_any mem (mem - 1) chunk (chunk * rows) (chunk * rows * (mem - 1)) b w1 (by omega) (by omega) (by omega) (by omega) (by omega)
    have CV : Hid (∀ w1, Calls Try.prog 24 #[.agg #[.int .i64 mem, .int .i64 (mem - 1), .int .i64 chunk, .int .i64 (chunk * rows), .int .i64 (chunk * rows * (mem - 1))], .int .i64 (TK.spotStripe ⟨id, mem, chunk, rows, log, heads⟩ b), .int .i64 (TK.spotSlot ⟨id, mem, chunk, rows, log, heads⟩ b)] w1 fun e w' => e = .returned (.int .i64 (TK.spotMember ⟨id, mem, chunk, rows, log, heads⟩ b)) ∧ Below w1.heap.size w1 w') := fun w1 => by
      have := tuMemberIn_any mem (mem - 1) chunk (chunk * rows) (chunk * rows * (mem - 1)) (TK.spotStripe ⟨id, mem, chunk, rows, log, heads⟩ b) (TK.spotSlot ⟨id, mem, chunk, rows, log, heads⟩ b) w1 (by omega) (by omega) (by omega) (by omega) (by omega) (by omega)
      rw [← TK.spot_member HM]
      exact this
    clear g1 hsp HM
    generalize TK.spotStripe ⟨id, mem, chunk, rows, log, heads⟩ b = z0 at *
    generalize TK.spotSlot ⟨id, mem, chunk, rows, log, heads⟩ b = z1 at *
    generalize TK.spotMember ⟨id, mem, chunk, rows, log, heads⟩ b = z2 at *
    generalize chunk * rows * (mem - 1) = bl at *
    generalize chunk * rows = st at *
    go_enter Try.func12, Try.ntmps12
    go_wp2_with fail
    (with_reducible refine (CT.out _).mono ?_)
    rintro e w1 ⟨rfl, b1⟩
    replace BX := Lib.hid (BX.out.here b1)
    replace BR := Lib.hid (BR.out.here b1)
    have ha1 : Below w1.heap.size w1 (w1.alloc (.cells #[.int .i64 mem, .int .i64 (mem - 1), .int .i64 chunk, .int .i64 st, .int .i64 bl] 47)) := (Below.refl _ _).alloc (Nat.le_refl _) _
    replace BX := Lib.hid (BX.out.here ha1)
    replace BR := Lib.hid (BR.out.here ha1)
    have BT : Hid (Bx (w1.alloc (.cells #[.int .i64 mem, .int .i64 (mem - 1), .int .i64 chunk, .int .i64 st, .int .i64 bl] 47)) w1.heap.size [.int .i64 mem, .int .i64 (mem - 1), .int .i64 chunk, .int .i64 st, .int .i64 bl]) := Bx.new w1 [.int .i64 mem, .int .i64 (mem - 1), .int .i64 chunk, .int .i64 st, .int .i64 bl] 47
    have B1 := Lib.hid (thence B0.out (thence b1 ha1 (Nat.le_refl _)) (Nat.le_refl _))
    clear ha1
    clear b1 B0
    obtain ⟨c0, c1, c2, c3, c4, c5⟩ := BX.out.six
    have ltBX := BX.out.lt
    obtain ⟨q0, q1, q2⟩ := BR.out.three
    have ltBR := BR.out.lt
    have fzBR0 := BR.out.frozen 0
    have fzBR1 := BR.out.frozen 1
    have fzBR2 := BR.out.frozen 2
    obtain ⟨r0, r1, r2, r3, r4⟩ := BT.out.five
    have ltBT := BT.out.lt
    go_wp2_with fail
    (with_reducible refine (CA.out _).mono ?_)
    rintro e w2 ⟨rfl, b2⟩
    clear c0 c1 c2 c3 c4 c5 q0 q1 q2 r0 r1 r2 r3 r4 ltBX ltBR ltBT fzBR0 fzBR1 fzBR2
    replace BX := Lib.hid (BX.out.here b2)
    replace BR := Lib.hid (BR.out.here b2)
    replace BT := Lib.hid (BT.out.here b2)
    have B2 := Lib.hid (thence B1.out b2 (Nat.le_refl _))
    clear b2 B1
    obtain ⟨c0, c1, c2, c3, c4, c5⟩ := BX.out.six
    have ltBX := BX.out.lt
    obtain ⟨q0, q1, q2⟩ := BR.out.three
    have ltBR := BR.out.lt
    have fzBR0 := BR.out.frozen 0
    have fzBR1 := BR.out.frozen 1
    have fzBR2 := BR.out.frozen 2
    obtain ⟨r0, r1, r2, r3, r4⟩ := BT.out.five
    have ltBT := BT.out.lt
    go_wp2_with fail
    (with_reducible refine (CP.out _).mono ?_)
    rintro e w3 ⟨rfl, b3⟩
    clear c0 c1 c2 c3 c4 c5 q0 q1 q2 r0 r1 r2 r3 r4 ltBX ltBR ltBT fzBR0 fzBR1 fzBR2
    replace BX := Lib.hid (BX.out.here b3)
    replace BR := Lib.hid (BR.out.here b3)
    replace BT := Lib.hid (BT.out.here b3)
    have B3 := Lib.hid (thence B2.out b3 (Nat.le_refl _))
    clear b3 B2
    obtain ⟨c0, c1, c2, c3, c4, c5⟩ := BX.out.six
    have ltBX := BX.out.lt
    obtain ⟨q0, q1, q2⟩ := BR.out.three
    have ltBR := BR.out.lt
    have fzBR0 := BR.out.frozen 0
    have fzBR1 := BR.out.frozen 1
    have fzBR2 := BR.out.frozen 2
    obtain ⟨r0, r1, r2, r3, r4⟩ := BT.out.five
    have ltBT := BT.out.lt
    go_wp2_with fail
    (with_reducible refine (CV.out _).mono ?_)
    rintro e w4 ⟨rfl, b4⟩
    clear c0 c1 c2 c3 c4 c5 q0 q1 q2 r0 r1 r2 r3 r4 ltBX ltBR ltBT fzBR0 fzBR1 fzBR2
    replace BX := Lib.hid (BX.out.here b4)
    replace BR := Lib.hid (BR.out.here b4)
    replace BT := Lib.hid (BT.out.here b4)
    have B4 := Lib.hid (thence B3.out b4 (Nat.le_refl _))
    clear b4 B3
    obtain ⟨c0, c1, c2, c3, c4, c5⟩ := BX.out.six
    have ltBX := BX.out.lt
    obtain ⟨q0, q1, q2⟩ := BR.out.three
    have ltBR := BR.out.lt
    have fzBR0 := BR.out.frozen 0
    have fzBR1 := BR.out.frozen 1
    have fzBR2 := BR.out.frozen 2
    obtain ⟨r0, r1, r2, r3, r4⟩ := BT.out.five
    have ltBT := BT.out.lt
    go_wp2_with fail
    have hb := (((B4.out.setCell (p := ⟨w.heap.size + 1, 0, none⟩) (Nat.le_succ _) (.int .i64 (z0))).setCell (p := ⟨w.heap.size + 1, 1, none⟩) (Nat.le_succ _) (.int .i64 (z1))).setCell (p := ⟨w.heap.size + 1, 2, none⟩) (Nat.le_succ _) (.int .i64 (z2)))
    exact bodyPost_ret (v := .tuple #[.agg #[.int .i64 z0, .int .i64 z1, .int .i64 z2], .int .i64 0]) (by simp [results, Try.results12, go_sem, ltBR, q0, q1, q2]) rfl ⟨rfl, hb⟩

theorem turnIs : TurnIs where
  spot := tuSpot_is
  block := tuBlock_is
  parity := tuParity_is
  member := tuMember_is
  slot := tuSlot_is

end Go.Proofs.Ythliogicdbnfoaa.PW
