/-
  The walk of a law of layer 8 (SplitTells), given what the program's calls answer.
-/
import Derived.Test.YtbhehicfenkbcaaSplitLaws
import Derived.Deep.DeepCutAuto
import Derived.Deep.QuietTactic
import Derived.BigQuiet
namespace Go.Proofs.Ytbhehicfenkbcaa.PW
open Go.RowKit
open SK (Cfg)
set_option linter.unusedVariables false
set_option linter.unusedSimpArgs false
set_option maxRecDepth 100000

/-- A text of the call's own, in blocks that hold none of some others. -/
def Tw (w : World) (a : Option Addr) (n c : Nat) (l : List Nat) (gs : List Nat) : Prop := ∃ lo hi, RdI lo hi w a n c l ∧ hi ≤ w.heap.size ∧ ∀ g ∈ gs, g < lo ∨ hi ≤ g
theorem Tw.new {w w' : World} {a : Option Addr} {n c : Nat} {l : List Nat} (h : RdI w.heap.size w'.heap.size w' a n c l) (gs : List Nat) (hg : ∀ g ∈ gs, g < w.heap.size) : Tw w' a n c l gs := ⟨_, _, h, Nat.le_refl _, fun g hx => .inl (hg g hx)⟩
theorem Tw.below {w w' : World} {a : Option Addr} {n c : Nat} {l : List Nat} {gs : List Nat} (h : Tw w a n c l gs) (hb : Below w.heap.size w w') : Tw w' a n c l gs := by
  obtain ⟨lo, hi, h1, h2, h3⟩ := h
  exact ⟨lo, hi, h1.keep (.ofBelow hb h2), Nat.le_trans h2 hb.size, h3⟩
theorem Tw.alloc {w : World} {a : Option Addr} {n c : Nat} {l : List Nat} {gs : List Nat} (h : Tw w a n c l gs) (o : Obj) : Tw (w.alloc o) a n c l (w.heap.size :: gs) := by
  obtain ⟨lo, hi, h1, h2, h3⟩ := h
  have hb : Below w.heap.size w (w.alloc o) := (Below.refl _ _).alloc (Nat.le_refl _) _
  refine ⟨lo, hi, h1.keep (.ofBelow hb h2), Nat.le_trans h2 hb.size, fun g hg => ?_⟩
  rcases List.mem_cons.1 hg with rfl | hg
  · exact .inr h2
  · exact h3 g hg
theorem Tw.set {w : World} {a : Option Addr} {n c : Nat} {l : List Nat} {gs : List Nat} (h : Tw w a n c l gs) (p : Addr) (v : Value) (hp : p.block ∈ gs) : Tw (w.setCell p v) a n c l gs := by
  obtain ⟨lo, hi, h1, h2, h3⟩ := h
  exact ⟨lo, hi, h1.keep (.setCell p v (h3 _ hp)), by simpa [World.setCell] using h2, h3⟩
theorem Tw.rd {w : World} {a : Option Addr} {n c : Nat} {l : List Nat} {gs : List Nat} (h : Tw w a n c l gs) : Rd w.heap.size w a n c l := by
  obtain ⟨lo, hi, h1, h2, _⟩ := h
  exact h1.1.mono h2
def TwoTwins (W0 : World) (k : Nat) (at_ many : Int) (dn : Nat) (l : List Nat) (k' : Nat) (at_' many' : Int) (dn' : Nat) (l' : List Nat) (x y : Value) (wx : World) : Prop := ∃ g h a c a' c', x = .pointer (some ⟨g, 0, none⟩) ∧ y = .pointer (some ⟨h, 0, none⟩) ∧ Bx wx g [.int .u8 (k : Int), .int .i64 at_, .int .i64 many, .slice a dn c] ∧ Bx wx h [.int .u8 (k' : Int), .int .i64 at_', .int .i64 many', .slice a' dn' c'] ∧ Rd wx.heap.size wx a dn c l ∧ Rd wx.heap.size wx a' dn' c' l' ∧ Below W0.heap.size W0 wx

set_option maxHeartbeats 8000000 in
theorem splitTells_walk (I : SplitIs) (id : Nat) (mem chunk rows log heads : Int) (k : Nat) (at_ many : Int) (da : Option Addr) (dn dc : Nat) (l : List Nat) (k' : Nat) (at_' many' : Int) (da' : Option Addr) (dn' dc' : Nat) (l' : List Nat) (w : World) (hr : Rd w.heap.size w da dn dc l) (hr' : Rd w.heap.size w da' dn' dc' l') :
    Calls Try.prog 4 #[.agg #[.int .u32 (id : Int), .int .i64 mem, .int .i64 chunk, .int .i64 rows, .int .i64 log, .int .i64 heads], .agg #[.int .u8 (k : Int), .int .i64 at_, .int .i64 many, .slice da dn dc], .agg #[.int .u8 (k' : Int), .int .i64 at_', .int .i64 many', .slice da' dn' dc']] w fun e w' => e = .returned (.bool true) ∧ Below w.heap.size w w' := by
  have ha1 : Below w.heap.size w (w.alloc (.cells #[.int .u32 (id : Int), .int .i64 mem, .int .i64 chunk, .int .i64 rows, .int .i64 log, .int .i64 heads] 24)) := (Below.refl _ _).alloc (Nat.le_refl _) _
  have ha2 : Below (w.alloc (.cells #[.int .u32 (id : Int), .int .i64 mem, .int .i64 chunk, .int .i64 rows, .int .i64 log, .int .i64 heads] 24)).heap.size (w.alloc (.cells #[.int .u32 (id : Int), .int .i64 mem, .int .i64 chunk, .int .i64 rows, .int .i64 log, .int .i64 heads] 24)) ((w.alloc (.cells #[.int .u32 (id : Int), .int .i64 mem, .int .i64 chunk, .int .i64 rows, .int .i64 log, .int .i64 heads] 24)).alloc (.cells #[.int .u8 (k : Int), .int .i64 at_, .int .i64 many, .slice da dn dc] 32)) := (Below.refl _ _).alloc (Nat.le_refl _) _
  have ha3 : Below ((w.alloc (.cells #[.int .u32 (id : Int), .int .i64 mem, .int .i64 chunk, .int .i64 rows, .int .i64 log, .int .i64 heads] 24)).alloc (.cells #[.int .u8 (k : Int), .int .i64 at_, .int .i64 many, .slice da dn dc] 32)).heap.size ((w.alloc (.cells #[.int .u32 (id : Int), .int .i64 mem, .int .i64 chunk, .int .i64 rows, .int .i64 log, .int .i64 heads] 24)).alloc (.cells #[.int .u8 (k : Int), .int .i64 at_, .int .i64 many, .slice da dn dc] 32)) (((w.alloc (.cells #[.int .u32 (id : Int), .int .i64 mem, .int .i64 chunk, .int .i64 rows, .int .i64 log, .int .i64 heads] 24)).alloc (.cells #[.int .u8 (k : Int), .int .i64 at_, .int .i64 many, .slice da dn dc] 32)).alloc (.cells #[.int .u8 (k' : Int), .int .i64 at_', .int .i64 many', .slice da' dn' dc'] 32)) := (Below.refl _ _).alloc (Nat.le_refl _) _
  have B0 : Hid (Below w.heap.size w (((w.alloc (.cells #[.int .u32 (id : Int), .int .i64 mem, .int .i64 chunk, .int .i64 rows, .int .i64 log, .int .i64 heads] 24)).alloc (.cells #[.int .u8 (k : Int), .int .i64 at_, .int .i64 many, .slice da dn dc] 32)).alloc (.cells #[.int .u8 (k' : Int), .int .i64 at_', .int .i64 many', .slice da' dn' dc'] 32))) := thence (thence ha1 ha2 (Nat.le_refl _)) ha3 (Nat.le_refl _)
  have BX : Hid (Bx (((w.alloc (.cells #[.int .u32 (id : Int), .int .i64 mem, .int .i64 chunk, .int .i64 rows, .int .i64 log, .int .i64 heads] 24)).alloc (.cells #[.int .u8 (k : Int), .int .i64 at_, .int .i64 many, .slice da dn dc] 32)).alloc (.cells #[.int .u8 (k' : Int), .int .i64 at_', .int .i64 many', .slice da' dn' dc'] 32)) w.heap.size [.int .u32 (id : Int), .int .i64 mem, .int .i64 chunk, .int .i64 rows, .int .i64 log, .int .i64 heads]) := ((Bx.new w [.int .u32 (id : Int), .int .i64 mem, .int .i64 chunk, .int .i64 rows, .int .i64 log, .int .i64 heads] 24).here ha2).here ha3
  have BY : Hid (Bx (((w.alloc (.cells #[.int .u32 (id : Int), .int .i64 mem, .int .i64 chunk, .int .i64 rows, .int .i64 log, .int .i64 heads] 24)).alloc (.cells #[.int .u8 (k : Int), .int .i64 at_, .int .i64 many, .slice da dn dc] 32)).alloc (.cells #[.int .u8 (k' : Int), .int .i64 at_', .int .i64 many', .slice da' dn' dc'] 32)) (w.heap.size + 1) [.int .u8 (k : Int), .int .i64 at_, .int .i64 many, .slice da dn dc]) := by
    have h := (Bx.new (w.alloc (.cells #[.int .u32 (id : Int), .int .i64 mem, .int .i64 chunk, .int .i64 rows, .int .i64 log, .int .i64 heads] 24)) [.int .u8 (k : Int), .int .i64 at_, .int .i64 many, .slice da dn dc] 32).here ha3
    have e : (w.alloc (.cells #[.int .u32 (id : Int), .int .i64 mem, .int .i64 chunk, .int .i64 rows, .int .i64 log, .int .i64 heads] 24)).heap.size = w.heap.size + 1 := by simp
    rw [e] at h
    exact h
  have BZ : Hid (Bx (((w.alloc (.cells #[.int .u32 (id : Int), .int .i64 mem, .int .i64 chunk, .int .i64 rows, .int .i64 log, .int .i64 heads] 24)).alloc (.cells #[.int .u8 (k : Int), .int .i64 at_, .int .i64 many, .slice da dn dc] 32)).alloc (.cells #[.int .u8 (k' : Int), .int .i64 at_', .int .i64 many', .slice da' dn' dc'] 32)) (w.heap.size + 1 + 1) [.int .u8 (k' : Int), .int .i64 at_', .int .i64 many', .slice da' dn' dc']) := by
    have h := Bx.new ((w.alloc (.cells #[.int .u32 (id : Int), .int .i64 mem, .int .i64 chunk, .int .i64 rows, .int .i64 log, .int .i64 heads] 24)).alloc (.cells #[.int .u8 (k : Int), .int .i64 at_, .int .i64 many, .slice da dn dc] 32)) [.int .u8 (k' : Int), .int .i64 at_', .int .i64 many', .slice da' dn' dc'] 32
    have e : ((w.alloc (.cells #[.int .u32 (id : Int), .int .i64 mem, .int .i64 chunk, .int .i64 rows, .int .i64 log, .int .i64 heads] 24)).alloc (.cells #[.int .u8 (k : Int), .int .i64 at_, .int .i64 many, .slice da dn dc] 32)).heap.size = w.heap.size + 1 + 1 := by simp
    rw [e] at h
    exact h
  clear ha1 ha2 ha3
  have HR := Lib.hid hr
  have HR' := Lib.hid hr'
  have hs : dn ≤ 9223372036854775807 := by have h1 := hr.long; have h2 := hr.fits; have h3 := hr.small; unfold maxLen at h3; omega
  have hs' : dn' ≤ 9223372036854775807 := by have h1 := hr'.long; have h2 := hr'.fits; have h3 := hr'.small; unfold maxLen at h3; omega
  have HL := Lib.hid hr.long
  have HL' := Lib.hid hr'.long
  clear hr hr'
  by_cases g1 : 5000 < dn
  · have i1 : (5000 : Int) < (dn : Int) := by omega
    clear g1
    go_enter Try.func4, Try.ntmps4
    go_wp2_with fail
    go_ret
    exact ⟨rfl, B0.out⟩
  have i1 : ¬ (5000 : Int) < (dn : Int) := by omega
  by_cases g2 : 5000 < dn'
  · have i2 : (5000 : Int) < (dn' : Int) := by omega
    clear g1 g2
    go_enter Try.func4, Try.ntmps4
    go_wp2_with fail
    go_ret
    exact ⟨rfl, B0.out⟩
  have i2 : ¬ (5000 : Int) < (dn' : Int) := by omega
  have hl : l.length ≤ 100000 := by rw [← HL.out]; omega
  have hl' : l'.length ≤ 100000 := by rw [← HL'.out]; omega
  clear g1 g2
  have CT1 : Hid (∀ w1, Rd w1.heap.size w1 da dn dc l → Calls Try.prog 15 #[.agg #[.int .u8 (k : Int), .int .i64 at_, .int .i64 many, .slice da dn dc]] w1 fun e w' => ∃ a' c', e = .returned (.agg #[.int .u8 (k : Int), .int .i64 at_, .int .i64 many, .slice a' dn c']) ∧ RdI w1.heap.size w'.heap.size w' a' dn c' l ∧ Below w1.heap.size w1 w') := fun w1 h => ref8Twin_any k at_ many da dn dc l w1 h hl
  have CT3 : Hid (∀ w1, Rd w1.heap.size w1 da' dn' dc' l' → Calls Try.prog 15 #[.agg #[.int .u8 (k' : Int), .int .i64 at_', .int .i64 many', .slice da' dn' dc']] w1 fun e w' => ∃ a2 c2, e = .returned (.agg #[.int .u8 (k' : Int), .int .i64 at_', .int .i64 many', .slice a2 dn' c2]) ∧ RdI w1.heap.size w'.heap.size w' a2 dn' c2 l' ∧ Below w1.heap.size w1 w') := fun w1 h => ref8Twin_any k' at_' many' da' dn' dc' l' w1 h hl'
  replace HR := Lib.hid ((HR.out.below B0.out).mono B0.out.size)
  replace HR' := Lib.hid ((HR'.out.below B0.out).mono B0.out.size)
  clear hl hl'
  go_enter Try.func4, Try.ntmps4
  go_upto_region 3 with fail
  generalize (((w.alloc (.cells #[.int .u32 (id : Int), .int .i64 mem, .int .i64 chunk, .int .i64 rows, .int .i64 log, .int .i64 heads] 24)).alloc (.cells #[.int .u8 (k : Int), .int .i64 at_, .int .i64 many, .slice da dn dc] 32)).alloc (.cells #[.int .u8 (k' : Int), .int .i64 at_', .int .i64 many', .slice da' dn' dc'] 32)) = W0 at *
  obtain ⟨c0, c1, c2, c3, c4, c5⟩ := BX.out.six
  have ltBX := BX.out.lt
  obtain ⟨y0, y1, y2, y3⟩ := BY.out.four
  have ltBY := BY.out.lt
  obtain ⟨z0, z1, z2, z3⟩ := BZ.out.four
  have ltBZ := BZ.out.lt
  go_cut [7, 8] (fun x y wx => TwoTwins W0 k at_ many dn l k' at_' many' dn' l' x y wx)
  case first =>
    refine wp_region_noPanic ?_
    refine PX.wp_region_y (fun w' => Below W0.heap.size W0 w') [] (by kernel_rfl) (Below.refl _ _).drew (fun hHeld => ?_)
    generalize W0.drew = V0 at *
    refine PX.wpAnyY_take (i := 0) (oi := ?_) (v := ?_) ?_ (by kernel_rfl) (by kernel_rfl) (by kernel_rfl) (by kernel_rfl) (by kernel_rfl) (fun _ _ _ h => h) (Or.inl ⟨?_, ?_⟩) (by assumption) ?_
    rotate_left 2
    · simp only [List.getElem?_toArray, List.getElem?_cons_succ, List.getElem?_cons_zero]; rfl
    · rfl
    · intro w hSw; (try dsimp only at hSw); have hC := fun (b o : Nat) (h : b < W0.heap.size) => Below.cell hSw (p := ⟨b, o, none⟩) h; go_simp <;> with_reducible rfl
    (try simp only [Act.put, List.setIfInBounds_toArray, List.set_cons_zero, List.set_cons_succ])
    refine PX.wpAnyY_take (i := 2) (oi := ?_) (v := ?_) ?_ (by kernel_rfl) (by kernel_rfl) (by kernel_rfl) (by kernel_rfl) (by kernel_rfl) (fun _ _ _ h => h) (Or.inl ⟨?_, ?_⟩) (by assumption) ?_
    rotate_left 2
    · simp only [List.getElem?_toArray, List.getElem?_cons_succ, List.getElem?_cons_zero]; rfl
    · rfl
    · intro w hSw; (try dsimp only at hSw); have hC := fun (b o : Nat) (h : b < W0.heap.size) => Below.cell hSw (p := ⟨b, o, none⟩) h; go_simp <;> with_reducible rfl
    (try simp only [Act.put, List.setIfInBounds_toArray, List.set_cons_zero, List.set_cons_succ])
    refine PX.wpAnyY_three (i := 1) (j := 4) (k := 5) (o := ?_) (o' := ?_) (o'' := ?_) (by kernel_rfl) ?_ ?_ ?_ (fun Kq hKq => ?_) (fun Kq hKq => ?_) (fun Kq hKq => ?_)
    rotate_left 3
    · simp only [List.getElem?_toArray, List.getElem?_cons_succ, List.getElem?_cons_zero]; rfl
    · simp only [List.getElem?_toArray, List.getElem?_cons_succ, List.getElem?_cons_zero]; rfl
    · simp only [List.getElem?_toArray, List.getElem?_cons_succ, List.getElem?_cons_zero]; rfl
    · go_simp
      (with_reducible refine (CT1.out _ ((HR.out.below hHeld).mono hHeld.size)).mono ?_)
      rintro e u1 ⟨a1, c1', rfl, rt, bq⟩
      have TX := Lib.hid (Tw.new rt [] (by intro g hg; cases hg))
      have Hu1 := Lib.hid (thence hHeld bq (Nat.le_refl _))
      clear rt bq
      go_wp2_with fail
      refine hKq.out _ _ (Hu1.out) (fun hHeld => ?_)
      clear hKq Kq
      (try simp only [Act.put, List.setIfInBounds_toArray, List.set_cons_zero, List.set_cons_succ])
      refine PX.wpAnyY_three (i := 3) (j := 4) (k := 5) (o := ?_) (o' := ?_) (o'' := ?_) (by kernel_rfl) ?_ ?_ ?_ (fun Kq hKq => ?_) (fun Kq hKq => ?_) (fun Kq hKq => ?_)
      rotate_left 3
      · simp only [List.getElem?_toArray, List.getElem?_cons_succ, List.getElem?_cons_zero]; rfl
      · simp only [List.getElem?_toArray, List.getElem?_cons_succ, List.getElem?_cons_zero]; rfl
      · simp only [List.getElem?_toArray, List.getElem?_cons_succ, List.getElem?_cons_zero]; rfl
      · go_simp
        (with_reducible refine (CT3.out _ ((HR'.out.below hHeld).mono hHeld.size)).mono ?_)
        rintro e u3 ⟨a3, c3', rfl, rt, bq⟩
        have TY := Lib.hid (Tw.new rt [] (by intro g hg; cases hg))
        replace TX := Lib.hid (TX.out.below bq)
        have Hu3 := Lib.hid (thence hHeld bq (Nat.le_refl _))
        clear rt bq
        go_wp2_with fail
        refine hKq.out _ _ (Hu3.out) (fun hHeld => ?_)
        clear hKq Kq
        (try simp only [Act.put, List.setIfInBounds_toArray, List.set_cons_zero, List.set_cons_succ])
        refine PX.wpAnyY_two (i := 4) (j := 5) (o := ?_) (o' := ?_) (by kernel_rfl) ?_ ?_ (fun Kq hKq => ?_) (fun Kq hKq => ?_)
        rotate_left 2
        · simp only [List.getElem?_toArray, List.getElem?_cons_succ, List.getElem?_cons_zero]; rfl
        · simp only [List.getElem?_toArray, List.getElem?_cons_succ, List.getElem?_cons_zero]; rfl
        · go_simp
          have al : Below u3.heap.size u3 (u3.alloc (.cells #[.int .u8 0, .int .i64 0, .int .i64 0, .slice none 0 0] 32)) := (Below.refl _ _).alloc (Nat.le_refl _) _
          replace TX := Lib.hid (TX.out.alloc (.cells #[.int .u8 0, .int .i64 0, .int .i64 0, .slice none 0 0] 32))
          replace TY := Lib.hid (TY.out.alloc (.cells #[.int .u8 0, .int .i64 0, .int .i64 0, .slice none 0 0] 32))
          have BQ4 : Hid (Bx (u3.alloc (.cells #[.int .u8 0, .int .i64 0, .int .i64 0, .slice none 0 0] 32)) u3.heap.size [.int .u8 0, .int .i64 0, .int .i64 0, .slice none 0 0]) := Bx.new u3 [.int .u8 0, .int .i64 0, .int .i64 0, .slice none 0 0] 32
          have GE4 : Hid (W0.heap.size ≤ u3.heap.size) := hHeld.size
          have Hv4 : Hid (Below W0.heap.size W0 (u3.alloc (.cells #[.int .u8 0, .int .i64 0, .int .i64 0, .slice none 0 0] 32))) := hHeld.alloc hHeld.size _
          clear al hHeld
          generalize u3.alloc (.cells #[.int .u8 0, .int .i64 0, .int .i64 0, .slice none 0 0] 32) = v4 at *
          refine hKq.out _ _ (Hv4.out) (fun hHeld => ?_)
          clear hKq Kq
          (try simp only [Act.put, List.setIfInBounds_toArray, List.set_cons_zero, List.set_cons_succ])
          refine PX.wpAnyY_one (i := 5) (o := ?_) (by kernel_rfl) ?_ (fun Kq hKq => ?_)
          rotate_left
          · simp only [List.getElem?_toArray, List.getElem?_cons_succ, List.getElem?_cons_zero]; rfl
          go_simp
          have al : Below v4.heap.size v4 (v4.alloc (.cells #[.int .u8 0, .int .i64 0, .int .i64 0, .slice none 0 0] 32)) := (Below.refl _ _).alloc (Nat.le_refl _) _
          replace TX := Lib.hid (TX.out.alloc (.cells #[.int .u8 0, .int .i64 0, .int .i64 0, .slice none 0 0] 32))
          replace TY := Lib.hid (TY.out.alloc (.cells #[.int .u8 0, .int .i64 0, .int .i64 0, .slice none 0 0] 32))
          have ne4 : u3.heap.size ≠ v4.heap.size := Nat.ne_of_lt BQ4.out.lt
          have NE := Lib.hid ne4
          clear ne4
          replace BQ4 := Lib.hid (BQ4.out.here al)
          have BQ5 : Hid (Bx (v4.alloc (.cells #[.int .u8 0, .int .i64 0, .int .i64 0, .slice none 0 0] 32)) v4.heap.size [.int .u8 0, .int .i64 0, .int .i64 0, .slice none 0 0]) := Bx.new v4 [.int .u8 0, .int .i64 0, .int .i64 0, .slice none 0 0] 32
          have GE5 : Hid (W0.heap.size ≤ v4.heap.size) := hHeld.size
          have Hv5 : Hid (Below W0.heap.size W0 (v4.alloc (.cells #[.int .u8 0, .int .i64 0, .int .i64 0, .slice none 0 0] 32))) := hHeld.alloc hHeld.size _
          clear al hHeld
          generalize v4.alloc (.cells #[.int .u8 0, .int .i64 0, .int .i64 0, .slice none 0 0] 32) = v5 at *
          obtain ⟨q0, q1, q2, q3⟩ := BQ4.out.four
          have fq0 := BQ4.out.frozen 0
          have fq1 := BQ4.out.frozen 1
          have fq2 := BQ4.out.frozen 2
          have fq3 := BQ4.out.frozen 3
          have ltq := BQ4.out.lt
          refine hKq.out _ _ (Hv5.out) (fun hHeld => ?_)
          clear hKq Kq
          (try simp only [Act.put, List.setIfInBounds_toArray, List.set_cons_zero, List.set_cons_succ])
          refine PX.wpAnyY_one (i := 6) (o := ?_) (by kernel_rfl) ?_ (fun Kq hKq => ?_)
          rotate_left
          · simp only [List.getElem?_toArray, List.getElem?_cons_succ, List.getElem?_cons_zero]; rfl
          go_simp
          replace TX := Lib.hid ((((TX.out.set ⟨u3.heap.size, 0, none⟩ (.int .u8 (k : Int)) (by simp)).set ⟨u3.heap.size, 1, none⟩ (.int .i64 at_) (by simp)).set ⟨u3.heap.size, 2, none⟩ (.int .i64 many) (by simp)).set ⟨u3.heap.size, 3, none⟩ (.slice a1 dn c1') (by simp))
          replace TY := Lib.hid ((((TY.out.set ⟨u3.heap.size, 0, none⟩ (.int .u8 (k : Int)) (by simp)).set ⟨u3.heap.size, 1, none⟩ (.int .i64 at_) (by simp)).set ⟨u3.heap.size, 2, none⟩ (.int .i64 many) (by simp)).set ⟨u3.heap.size, 3, none⟩ (.slice a1 dn c1') (by simp))
          replace BQ4 : Hid (Bx ((((v5.setCell ⟨u3.heap.size, 0, none⟩ (.int .u8 (k : Int))).setCell ⟨u3.heap.size, 1, none⟩ (.int .i64 at_)).setCell ⟨u3.heap.size, 2, none⟩ (.int .i64 many)).setCell ⟨u3.heap.size, 3, none⟩ (.slice a1 dn c1')) u3.heap.size [.int .u8 (k : Int), .int .i64 at_, .int .i64 many, .slice a1 dn c1']) := ((((BQ4.out.set 0 (.int .u8 (k : Int))).set 1 (.int .i64 at_)).set 2 (.int .i64 many)).set 3 (.slice a1 dn c1'))
          replace BQ5 := Lib.hid ((((BQ5.out.other ⟨u3.heap.size, 0, none⟩ (by show u3.heap.size ≠ v4.heap.size; have := NE.out; omega) (.int .u8 (k : Int))).other ⟨u3.heap.size, 1, none⟩ (by show u3.heap.size ≠ v4.heap.size; have := NE.out; omega) (.int .i64 at_)).other ⟨u3.heap.size, 2, none⟩ (by show u3.heap.size ≠ v4.heap.size; have := NE.out; omega) (.int .i64 many)).other ⟨u3.heap.size, 3, none⟩ (by show u3.heap.size ≠ v4.heap.size; have := NE.out; omega) (.slice a1 dn c1'))
          have Hs6 := Lib.hid ((((hHeld.setCell (p := ⟨u3.heap.size, 0, none⟩) GE4.out (.int .u8 (k : Int))).setCell (p := ⟨u3.heap.size, 1, none⟩) GE4.out (.int .i64 at_)).setCell (p := ⟨u3.heap.size, 2, none⟩) GE4.out (.int .i64 many)).setCell (p := ⟨u3.heap.size, 3, none⟩) GE4.out (.slice a1 dn c1'))
          clear hHeld q0 q1 q2 q3 fq0 fq1 fq2 fq3 ltq
          generalize ((((v5.setCell ⟨u3.heap.size, 0, none⟩ (.int .u8 (k : Int))).setCell ⟨u3.heap.size, 1, none⟩ (.int .i64 at_)).setCell ⟨u3.heap.size, 2, none⟩ (.int .i64 many)).setCell ⟨u3.heap.size, 3, none⟩ (.slice a1 dn c1')) = s6 at *
          obtain ⟨q0, q1, q2, q3⟩ := BQ5.out.four
          have fq0 := BQ5.out.frozen 0
          have fq1 := BQ5.out.frozen 1
          have fq2 := BQ5.out.frozen 2
          have fq3 := BQ5.out.frozen 3
          have ltq := BQ5.out.lt
          refine hKq.out _ _ (Hs6.out) (fun hHeld => ?_)
          clear hKq Kq
          (try simp only [Act.put, List.setIfInBounds_toArray, List.set_cons_zero, List.set_cons_succ])
          refine PX.wpAnyY_one (i := 7) (o := ?_) (by kernel_rfl) ?_ (fun Kq hKq => ?_)
          rotate_left
          · simp only [List.getElem?_toArray, List.getElem?_cons_succ, List.getElem?_cons_zero]; rfl
          go_simp
          replace TX := Lib.hid ((((TX.out.set ⟨v4.heap.size, 0, none⟩ (.int .u8 (k' : Int)) (by simp)).set ⟨v4.heap.size, 1, none⟩ (.int .i64 at_') (by simp)).set ⟨v4.heap.size, 2, none⟩ (.int .i64 many') (by simp)).set ⟨v4.heap.size, 3, none⟩ (.slice a3 dn' c3') (by simp))
          replace TY := Lib.hid ((((TY.out.set ⟨v4.heap.size, 0, none⟩ (.int .u8 (k' : Int)) (by simp)).set ⟨v4.heap.size, 1, none⟩ (.int .i64 at_') (by simp)).set ⟨v4.heap.size, 2, none⟩ (.int .i64 many') (by simp)).set ⟨v4.heap.size, 3, none⟩ (.slice a3 dn' c3') (by simp))
          replace BQ5 : Hid (Bx ((((s6.setCell ⟨v4.heap.size, 0, none⟩ (.int .u8 (k' : Int))).setCell ⟨v4.heap.size, 1, none⟩ (.int .i64 at_')).setCell ⟨v4.heap.size, 2, none⟩ (.int .i64 many')).setCell ⟨v4.heap.size, 3, none⟩ (.slice a3 dn' c3')) v4.heap.size [.int .u8 (k' : Int), .int .i64 at_', .int .i64 many', .slice a3 dn' c3']) := ((((BQ5.out.set 0 (.int .u8 (k' : Int))).set 1 (.int .i64 at_')).set 2 (.int .i64 many')).set 3 (.slice a3 dn' c3'))
          replace BQ4 := Lib.hid ((((BQ4.out.other ⟨v4.heap.size, 0, none⟩ (by show v4.heap.size ≠ u3.heap.size; have := NE.out; omega) (.int .u8 (k' : Int))).other ⟨v4.heap.size, 1, none⟩ (by show v4.heap.size ≠ u3.heap.size; have := NE.out; omega) (.int .i64 at_')).other ⟨v4.heap.size, 2, none⟩ (by show v4.heap.size ≠ u3.heap.size; have := NE.out; omega) (.int .i64 many')).other ⟨v4.heap.size, 3, none⟩ (by show v4.heap.size ≠ u3.heap.size; have := NE.out; omega) (.slice a3 dn' c3'))
          have Hs7 := Lib.hid ((((hHeld.setCell (p := ⟨v4.heap.size, 0, none⟩) GE5.out (.int .u8 (k' : Int))).setCell (p := ⟨v4.heap.size, 1, none⟩) GE5.out (.int .i64 at_')).setCell (p := ⟨v4.heap.size, 2, none⟩) GE5.out (.int .i64 many')).setCell (p := ⟨v4.heap.size, 3, none⟩) GE5.out (.slice a3 dn' c3'))
          clear hHeld q0 q1 q2 q3 fq0 fq1 fq2 fq3 ltq
          generalize ((((s6.setCell ⟨v4.heap.size, 0, none⟩ (.int .u8 (k' : Int))).setCell ⟨v4.heap.size, 1, none⟩ (.int .i64 at_')).setCell ⟨v4.heap.size, 2, none⟩ (.int .i64 many')).setCell ⟨v4.heap.size, 3, none⟩ (.slice a3 dn' c3')) = s7 at *
          refine hKq.out _ _ (Hs7.out) (fun hHeld => ?_)
          clear hKq Kq
          (try simp only [Act.put, List.setIfInBounds_toArray, List.set_cons_zero, List.set_cons_succ])
          refine PX.wpAnyY_done (by kernel_rfl) ?_ _
          refine NoPanic.normal ?_
          clear hHeld
          go_wp2_with fail
          go_meet
          exact ⟨u3.heap.size, v4.heap.size, a1, c1', a3, c3', rfl, rfl, BQ4.out, BQ5.out, TX.out.rd, TY.out.rd, Hs7.out⟩
        · go_simp
          have al : Below u3.heap.size u3 (u3.alloc (.cells #[.int .u8 0, .int .i64 0, .int .i64 0, .slice none 0 0] 32)) := (Below.refl _ _).alloc (Nat.le_refl _) _
          replace TX := Lib.hid (TX.out.alloc (.cells #[.int .u8 0, .int .i64 0, .int .i64 0, .slice none 0 0] 32))
          replace TY := Lib.hid (TY.out.alloc (.cells #[.int .u8 0, .int .i64 0, .int .i64 0, .slice none 0 0] 32))
          have BQ5 : Hid (Bx (u3.alloc (.cells #[.int .u8 0, .int .i64 0, .int .i64 0, .slice none 0 0] 32)) u3.heap.size [.int .u8 0, .int .i64 0, .int .i64 0, .slice none 0 0]) := Bx.new u3 [.int .u8 0, .int .i64 0, .int .i64 0, .slice none 0 0] 32
          have GE5 : Hid (W0.heap.size ≤ u3.heap.size) := hHeld.size
          have Hv5 : Hid (Below W0.heap.size W0 (u3.alloc (.cells #[.int .u8 0, .int .i64 0, .int .i64 0, .slice none 0 0] 32))) := hHeld.alloc hHeld.size _
          clear al hHeld
          generalize u3.alloc (.cells #[.int .u8 0, .int .i64 0, .int .i64 0, .slice none 0 0] 32) = v5 at *
          refine hKq.out _ _ (Hv5.out) (fun hHeld => ?_)
          clear hKq Kq
          (try simp only [Act.put, List.setIfInBounds_toArray, List.set_cons_zero, List.set_cons_succ])
          refine PX.wpAnyY_one (i := 4) (o := ?_) (by kernel_rfl) ?_ (fun Kq hKq => ?_)
          rotate_left
          · simp only [List.getElem?_toArray, List.getElem?_cons_succ, List.getElem?_cons_zero]; rfl
          go_simp
          have al : Below v5.heap.size v5 (v5.alloc (.cells #[.int .u8 0, .int .i64 0, .int .i64 0, .slice none 0 0] 32)) := (Below.refl _ _).alloc (Nat.le_refl _) _
          replace TX := Lib.hid (TX.out.alloc (.cells #[.int .u8 0, .int .i64 0, .int .i64 0, .slice none 0 0] 32))
          replace TY := Lib.hid (TY.out.alloc (.cells #[.int .u8 0, .int .i64 0, .int .i64 0, .slice none 0 0] 32))
          have ne5 : u3.heap.size ≠ v5.heap.size := Nat.ne_of_lt BQ5.out.lt
          have NE := Lib.hid ne5
          clear ne5
          replace BQ5 := Lib.hid (BQ5.out.here al)
          have BQ4 : Hid (Bx (v5.alloc (.cells #[.int .u8 0, .int .i64 0, .int .i64 0, .slice none 0 0] 32)) v5.heap.size [.int .u8 0, .int .i64 0, .int .i64 0, .slice none 0 0]) := Bx.new v5 [.int .u8 0, .int .i64 0, .int .i64 0, .slice none 0 0] 32
          have GE4 : Hid (W0.heap.size ≤ v5.heap.size) := hHeld.size
          have Hv4 : Hid (Below W0.heap.size W0 (v5.alloc (.cells #[.int .u8 0, .int .i64 0, .int .i64 0, .slice none 0 0] 32))) := hHeld.alloc hHeld.size _
          clear al hHeld
          generalize v5.alloc (.cells #[.int .u8 0, .int .i64 0, .int .i64 0, .slice none 0 0] 32) = v4 at *
          obtain ⟨q0, q1, q2, q3⟩ := BQ4.out.four
          have fq0 := BQ4.out.frozen 0
          have fq1 := BQ4.out.frozen 1
          have fq2 := BQ4.out.frozen 2
          have fq3 := BQ4.out.frozen 3
          have ltq := BQ4.out.lt
          refine hKq.out _ _ (Hv4.out) (fun hHeld => ?_)
          clear hKq Kq
          (try simp only [Act.put, List.setIfInBounds_toArray, List.set_cons_zero, List.set_cons_succ])
          refine PX.wpAnyY_one (i := 6) (o := ?_) (by kernel_rfl) ?_ (fun Kq hKq => ?_)
          rotate_left
          · simp only [List.getElem?_toArray, List.getElem?_cons_succ, List.getElem?_cons_zero]; rfl
          go_simp
          replace TX := Lib.hid ((((TX.out.set ⟨v5.heap.size, 0, none⟩ (.int .u8 (k : Int)) (by simp)).set ⟨v5.heap.size, 1, none⟩ (.int .i64 at_) (by simp)).set ⟨v5.heap.size, 2, none⟩ (.int .i64 many) (by simp)).set ⟨v5.heap.size, 3, none⟩ (.slice a1 dn c1') (by simp))
          replace TY := Lib.hid ((((TY.out.set ⟨v5.heap.size, 0, none⟩ (.int .u8 (k : Int)) (by simp)).set ⟨v5.heap.size, 1, none⟩ (.int .i64 at_) (by simp)).set ⟨v5.heap.size, 2, none⟩ (.int .i64 many) (by simp)).set ⟨v5.heap.size, 3, none⟩ (.slice a1 dn c1') (by simp))
          replace BQ4 : Hid (Bx ((((v4.setCell ⟨v5.heap.size, 0, none⟩ (.int .u8 (k : Int))).setCell ⟨v5.heap.size, 1, none⟩ (.int .i64 at_)).setCell ⟨v5.heap.size, 2, none⟩ (.int .i64 many)).setCell ⟨v5.heap.size, 3, none⟩ (.slice a1 dn c1')) v5.heap.size [.int .u8 (k : Int), .int .i64 at_, .int .i64 many, .slice a1 dn c1']) := ((((BQ4.out.set 0 (.int .u8 (k : Int))).set 1 (.int .i64 at_)).set 2 (.int .i64 many)).set 3 (.slice a1 dn c1'))
          replace BQ5 := Lib.hid ((((BQ5.out.other ⟨v5.heap.size, 0, none⟩ (by show v5.heap.size ≠ u3.heap.size; have := NE.out; omega) (.int .u8 (k : Int))).other ⟨v5.heap.size, 1, none⟩ (by show v5.heap.size ≠ u3.heap.size; have := NE.out; omega) (.int .i64 at_)).other ⟨v5.heap.size, 2, none⟩ (by show v5.heap.size ≠ u3.heap.size; have := NE.out; omega) (.int .i64 many)).other ⟨v5.heap.size, 3, none⟩ (by show v5.heap.size ≠ u3.heap.size; have := NE.out; omega) (.slice a1 dn c1'))
          have Hs6 := Lib.hid ((((hHeld.setCell (p := ⟨v5.heap.size, 0, none⟩) GE4.out (.int .u8 (k : Int))).setCell (p := ⟨v5.heap.size, 1, none⟩) GE4.out (.int .i64 at_)).setCell (p := ⟨v5.heap.size, 2, none⟩) GE4.out (.int .i64 many)).setCell (p := ⟨v5.heap.size, 3, none⟩) GE4.out (.slice a1 dn c1'))
          clear hHeld q0 q1 q2 q3 fq0 fq1 fq2 fq3 ltq
          generalize ((((v4.setCell ⟨v5.heap.size, 0, none⟩ (.int .u8 (k : Int))).setCell ⟨v5.heap.size, 1, none⟩ (.int .i64 at_)).setCell ⟨v5.heap.size, 2, none⟩ (.int .i64 many)).setCell ⟨v5.heap.size, 3, none⟩ (.slice a1 dn c1')) = s6 at *
          obtain ⟨q0, q1, q2, q3⟩ := BQ5.out.four
          have fq0 := BQ5.out.frozen 0
          have fq1 := BQ5.out.frozen 1
          have fq2 := BQ5.out.frozen 2
          have fq3 := BQ5.out.frozen 3
          have ltq := BQ5.out.lt
          refine hKq.out _ _ (Hs6.out) (fun hHeld => ?_)
          clear hKq Kq
          (try simp only [Act.put, List.setIfInBounds_toArray, List.set_cons_zero, List.set_cons_succ])
          refine PX.wpAnyY_one (i := 7) (o := ?_) (by kernel_rfl) ?_ (fun Kq hKq => ?_)
          rotate_left
          · simp only [List.getElem?_toArray, List.getElem?_cons_succ, List.getElem?_cons_zero]; rfl
          go_simp
          replace TX := Lib.hid ((((TX.out.set ⟨u3.heap.size, 0, none⟩ (.int .u8 (k' : Int)) (by simp)).set ⟨u3.heap.size, 1, none⟩ (.int .i64 at_') (by simp)).set ⟨u3.heap.size, 2, none⟩ (.int .i64 many') (by simp)).set ⟨u3.heap.size, 3, none⟩ (.slice a3 dn' c3') (by simp))
          replace TY := Lib.hid ((((TY.out.set ⟨u3.heap.size, 0, none⟩ (.int .u8 (k' : Int)) (by simp)).set ⟨u3.heap.size, 1, none⟩ (.int .i64 at_') (by simp)).set ⟨u3.heap.size, 2, none⟩ (.int .i64 many') (by simp)).set ⟨u3.heap.size, 3, none⟩ (.slice a3 dn' c3') (by simp))
          replace BQ5 : Hid (Bx ((((s6.setCell ⟨u3.heap.size, 0, none⟩ (.int .u8 (k' : Int))).setCell ⟨u3.heap.size, 1, none⟩ (.int .i64 at_')).setCell ⟨u3.heap.size, 2, none⟩ (.int .i64 many')).setCell ⟨u3.heap.size, 3, none⟩ (.slice a3 dn' c3')) u3.heap.size [.int .u8 (k' : Int), .int .i64 at_', .int .i64 many', .slice a3 dn' c3']) := ((((BQ5.out.set 0 (.int .u8 (k' : Int))).set 1 (.int .i64 at_')).set 2 (.int .i64 many')).set 3 (.slice a3 dn' c3'))
          replace BQ4 := Lib.hid ((((BQ4.out.other ⟨u3.heap.size, 0, none⟩ (by show u3.heap.size ≠ v5.heap.size; have := NE.out; omega) (.int .u8 (k' : Int))).other ⟨u3.heap.size, 1, none⟩ (by show u3.heap.size ≠ v5.heap.size; have := NE.out; omega) (.int .i64 at_')).other ⟨u3.heap.size, 2, none⟩ (by show u3.heap.size ≠ v5.heap.size; have := NE.out; omega) (.int .i64 many')).other ⟨u3.heap.size, 3, none⟩ (by show u3.heap.size ≠ v5.heap.size; have := NE.out; omega) (.slice a3 dn' c3'))
          have Hs7 := Lib.hid ((((hHeld.setCell (p := ⟨u3.heap.size, 0, none⟩) GE5.out (.int .u8 (k' : Int))).setCell (p := ⟨u3.heap.size, 1, none⟩) GE5.out (.int .i64 at_')).setCell (p := ⟨u3.heap.size, 2, none⟩) GE5.out (.int .i64 many')).setCell (p := ⟨u3.heap.size, 3, none⟩) GE5.out (.slice a3 dn' c3'))
          clear hHeld q0 q1 q2 q3 fq0 fq1 fq2 fq3 ltq
          generalize ((((s6.setCell ⟨u3.heap.size, 0, none⟩ (.int .u8 (k' : Int))).setCell ⟨u3.heap.size, 1, none⟩ (.int .i64 at_')).setCell ⟨u3.heap.size, 2, none⟩ (.int .i64 many')).setCell ⟨u3.heap.size, 3, none⟩ (.slice a3 dn' c3')) = s7 at *
          refine hKq.out _ _ (Hs7.out) (fun hHeld => ?_)
          clear hKq Kq
          (try simp only [Act.put, List.setIfInBounds_toArray, List.set_cons_zero, List.set_cons_succ])
          refine PX.wpAnyY_done (by kernel_rfl) ?_ _
          refine NoPanic.normal ?_
          clear hHeld
          go_wp2_with fail
          go_meet
          exact ⟨v5.heap.size, u3.heap.size, a1, c1', a3, c3', rfl, rfl, BQ4.out, BQ5.out, TX.out.rd, TY.out.rd, Hs7.out⟩
      · go_simp
        have al : Below u1.heap.size u1 (u1.alloc (.cells #[.int .u8 0, .int .i64 0, .int .i64 0, .slice none 0 0] 32)) := (Below.refl _ _).alloc (Nat.le_refl _) _
        replace TX := Lib.hid (TX.out.alloc (.cells #[.int .u8 0, .int .i64 0, .int .i64 0, .slice none 0 0] 32))
        have BQ4 : Hid (Bx (u1.alloc (.cells #[.int .u8 0, .int .i64 0, .int .i64 0, .slice none 0 0] 32)) u1.heap.size [.int .u8 0, .int .i64 0, .int .i64 0, .slice none 0 0]) := Bx.new u1 [.int .u8 0, .int .i64 0, .int .i64 0, .slice none 0 0] 32
        have GE4 : Hid (W0.heap.size ≤ u1.heap.size) := hHeld.size
        have Hv4 : Hid (Below W0.heap.size W0 (u1.alloc (.cells #[.int .u8 0, .int .i64 0, .int .i64 0, .slice none 0 0] 32))) := hHeld.alloc hHeld.size _
        clear al hHeld
        generalize u1.alloc (.cells #[.int .u8 0, .int .i64 0, .int .i64 0, .slice none 0 0] 32) = v4 at *
        refine hKq.out _ _ (Hv4.out) (fun hHeld => ?_)
        clear hKq Kq
        (try simp only [Act.put, List.setIfInBounds_toArray, List.set_cons_zero, List.set_cons_succ])
        refine PX.wpAnyY_two (i := 3) (j := 5) (o := ?_) (o' := ?_) (by kernel_rfl) ?_ ?_ (fun Kq hKq => ?_) (fun Kq hKq => ?_)
        rotate_left 2
        · simp only [List.getElem?_toArray, List.getElem?_cons_succ, List.getElem?_cons_zero]; rfl
        · simp only [List.getElem?_toArray, List.getElem?_cons_succ, List.getElem?_cons_zero]; rfl
        · go_simp
          (with_reducible refine (CT3.out _ ((HR'.out.below hHeld).mono hHeld.size)).mono ?_)
          rintro e u3 ⟨a3, c3', rfl, rt, bq⟩
          have lt4 := BQ4.out.lt
          have TY := Lib.hid (Tw.new rt [u1.heap.size] (by intro g hg; simp only [List.mem_cons, List.not_mem_nil, or_false] at hg; omega))
          replace TX := Lib.hid (TX.out.below bq)
          replace BQ4 := Lib.hid (BQ4.out.here bq)
          have Hu3 := Lib.hid (thence hHeld bq (Nat.le_refl _))
          clear rt bq lt4
          go_wp2_with fail
          refine hKq.out _ _ (Hu3.out) (fun hHeld => ?_)
          clear hKq Kq
          (try simp only [Act.put, List.setIfInBounds_toArray, List.set_cons_zero, List.set_cons_succ])
          refine PX.wpAnyY_one (i := 5) (o := ?_) (by kernel_rfl) ?_ (fun Kq hKq => ?_)
          rotate_left
          · simp only [List.getElem?_toArray, List.getElem?_cons_succ, List.getElem?_cons_zero]; rfl
          go_simp
          have al : Below u3.heap.size u3 (u3.alloc (.cells #[.int .u8 0, .int .i64 0, .int .i64 0, .slice none 0 0] 32)) := (Below.refl _ _).alloc (Nat.le_refl _) _
          replace TX := Lib.hid (TX.out.alloc (.cells #[.int .u8 0, .int .i64 0, .int .i64 0, .slice none 0 0] 32))
          replace TY := Lib.hid (TY.out.alloc (.cells #[.int .u8 0, .int .i64 0, .int .i64 0, .slice none 0 0] 32))
          have ne4 : u1.heap.size ≠ u3.heap.size := Nat.ne_of_lt BQ4.out.lt
          have NE := Lib.hid ne4
          clear ne4
          replace BQ4 := Lib.hid (BQ4.out.here al)
          have BQ5 : Hid (Bx (u3.alloc (.cells #[.int .u8 0, .int .i64 0, .int .i64 0, .slice none 0 0] 32)) u3.heap.size [.int .u8 0, .int .i64 0, .int .i64 0, .slice none 0 0]) := Bx.new u3 [.int .u8 0, .int .i64 0, .int .i64 0, .slice none 0 0] 32
          have GE5 : Hid (W0.heap.size ≤ u3.heap.size) := hHeld.size
          have Hv5 : Hid (Below W0.heap.size W0 (u3.alloc (.cells #[.int .u8 0, .int .i64 0, .int .i64 0, .slice none 0 0] 32))) := hHeld.alloc hHeld.size _
          clear al hHeld
          generalize u3.alloc (.cells #[.int .u8 0, .int .i64 0, .int .i64 0, .slice none 0 0] 32) = v5 at *
          obtain ⟨q0, q1, q2, q3⟩ := BQ4.out.four
          have fq0 := BQ4.out.frozen 0
          have fq1 := BQ4.out.frozen 1
          have fq2 := BQ4.out.frozen 2
          have fq3 := BQ4.out.frozen 3
          have ltq := BQ4.out.lt
          refine hKq.out _ _ (Hv5.out) (fun hHeld => ?_)
          clear hKq Kq
          (try simp only [Act.put, List.setIfInBounds_toArray, List.set_cons_zero, List.set_cons_succ])
          refine PX.wpAnyY_one (i := 6) (o := ?_) (by kernel_rfl) ?_ (fun Kq hKq => ?_)
          rotate_left
          · simp only [List.getElem?_toArray, List.getElem?_cons_succ, List.getElem?_cons_zero]; rfl
          go_simp
          replace TX := Lib.hid ((((TX.out.set ⟨u1.heap.size, 0, none⟩ (.int .u8 (k : Int)) (by simp)).set ⟨u1.heap.size, 1, none⟩ (.int .i64 at_) (by simp)).set ⟨u1.heap.size, 2, none⟩ (.int .i64 many) (by simp)).set ⟨u1.heap.size, 3, none⟩ (.slice a1 dn c1') (by simp))
          replace TY := Lib.hid ((((TY.out.set ⟨u1.heap.size, 0, none⟩ (.int .u8 (k : Int)) (by simp)).set ⟨u1.heap.size, 1, none⟩ (.int .i64 at_) (by simp)).set ⟨u1.heap.size, 2, none⟩ (.int .i64 many) (by simp)).set ⟨u1.heap.size, 3, none⟩ (.slice a1 dn c1') (by simp))
          replace BQ4 : Hid (Bx ((((v5.setCell ⟨u1.heap.size, 0, none⟩ (.int .u8 (k : Int))).setCell ⟨u1.heap.size, 1, none⟩ (.int .i64 at_)).setCell ⟨u1.heap.size, 2, none⟩ (.int .i64 many)).setCell ⟨u1.heap.size, 3, none⟩ (.slice a1 dn c1')) u1.heap.size [.int .u8 (k : Int), .int .i64 at_, .int .i64 many, .slice a1 dn c1']) := ((((BQ4.out.set 0 (.int .u8 (k : Int))).set 1 (.int .i64 at_)).set 2 (.int .i64 many)).set 3 (.slice a1 dn c1'))
          replace BQ5 := Lib.hid ((((BQ5.out.other ⟨u1.heap.size, 0, none⟩ (by show u1.heap.size ≠ u3.heap.size; have := NE.out; omega) (.int .u8 (k : Int))).other ⟨u1.heap.size, 1, none⟩ (by show u1.heap.size ≠ u3.heap.size; have := NE.out; omega) (.int .i64 at_)).other ⟨u1.heap.size, 2, none⟩ (by show u1.heap.size ≠ u3.heap.size; have := NE.out; omega) (.int .i64 many)).other ⟨u1.heap.size, 3, none⟩ (by show u1.heap.size ≠ u3.heap.size; have := NE.out; omega) (.slice a1 dn c1'))
          have Hs6 := Lib.hid ((((hHeld.setCell (p := ⟨u1.heap.size, 0, none⟩) GE4.out (.int .u8 (k : Int))).setCell (p := ⟨u1.heap.size, 1, none⟩) GE4.out (.int .i64 at_)).setCell (p := ⟨u1.heap.size, 2, none⟩) GE4.out (.int .i64 many)).setCell (p := ⟨u1.heap.size, 3, none⟩) GE4.out (.slice a1 dn c1'))
          clear hHeld q0 q1 q2 q3 fq0 fq1 fq2 fq3 ltq
          generalize ((((v5.setCell ⟨u1.heap.size, 0, none⟩ (.int .u8 (k : Int))).setCell ⟨u1.heap.size, 1, none⟩ (.int .i64 at_)).setCell ⟨u1.heap.size, 2, none⟩ (.int .i64 many)).setCell ⟨u1.heap.size, 3, none⟩ (.slice a1 dn c1')) = s6 at *
          obtain ⟨q0, q1, q2, q3⟩ := BQ5.out.four
          have fq0 := BQ5.out.frozen 0
          have fq1 := BQ5.out.frozen 1
          have fq2 := BQ5.out.frozen 2
          have fq3 := BQ5.out.frozen 3
          have ltq := BQ5.out.lt
          refine hKq.out _ _ (Hs6.out) (fun hHeld => ?_)
          clear hKq Kq
          (try simp only [Act.put, List.setIfInBounds_toArray, List.set_cons_zero, List.set_cons_succ])
          refine PX.wpAnyY_one (i := 7) (o := ?_) (by kernel_rfl) ?_ (fun Kq hKq => ?_)
          rotate_left
          · simp only [List.getElem?_toArray, List.getElem?_cons_succ, List.getElem?_cons_zero]; rfl
          go_simp
          replace TX := Lib.hid ((((TX.out.set ⟨u3.heap.size, 0, none⟩ (.int .u8 (k' : Int)) (by simp)).set ⟨u3.heap.size, 1, none⟩ (.int .i64 at_') (by simp)).set ⟨u3.heap.size, 2, none⟩ (.int .i64 many') (by simp)).set ⟨u3.heap.size, 3, none⟩ (.slice a3 dn' c3') (by simp))
          replace TY := Lib.hid ((((TY.out.set ⟨u3.heap.size, 0, none⟩ (.int .u8 (k' : Int)) (by simp)).set ⟨u3.heap.size, 1, none⟩ (.int .i64 at_') (by simp)).set ⟨u3.heap.size, 2, none⟩ (.int .i64 many') (by simp)).set ⟨u3.heap.size, 3, none⟩ (.slice a3 dn' c3') (by simp))
          replace BQ5 : Hid (Bx ((((s6.setCell ⟨u3.heap.size, 0, none⟩ (.int .u8 (k' : Int))).setCell ⟨u3.heap.size, 1, none⟩ (.int .i64 at_')).setCell ⟨u3.heap.size, 2, none⟩ (.int .i64 many')).setCell ⟨u3.heap.size, 3, none⟩ (.slice a3 dn' c3')) u3.heap.size [.int .u8 (k' : Int), .int .i64 at_', .int .i64 many', .slice a3 dn' c3']) := ((((BQ5.out.set 0 (.int .u8 (k' : Int))).set 1 (.int .i64 at_')).set 2 (.int .i64 many')).set 3 (.slice a3 dn' c3'))
          replace BQ4 := Lib.hid ((((BQ4.out.other ⟨u3.heap.size, 0, none⟩ (by show u3.heap.size ≠ u1.heap.size; have := NE.out; omega) (.int .u8 (k' : Int))).other ⟨u3.heap.size, 1, none⟩ (by show u3.heap.size ≠ u1.heap.size; have := NE.out; omega) (.int .i64 at_')).other ⟨u3.heap.size, 2, none⟩ (by show u3.heap.size ≠ u1.heap.size; have := NE.out; omega) (.int .i64 many')).other ⟨u3.heap.size, 3, none⟩ (by show u3.heap.size ≠ u1.heap.size; have := NE.out; omega) (.slice a3 dn' c3'))
          have Hs7 := Lib.hid ((((hHeld.setCell (p := ⟨u3.heap.size, 0, none⟩) GE5.out (.int .u8 (k' : Int))).setCell (p := ⟨u3.heap.size, 1, none⟩) GE5.out (.int .i64 at_')).setCell (p := ⟨u3.heap.size, 2, none⟩) GE5.out (.int .i64 many')).setCell (p := ⟨u3.heap.size, 3, none⟩) GE5.out (.slice a3 dn' c3'))
          clear hHeld q0 q1 q2 q3 fq0 fq1 fq2 fq3 ltq
          generalize ((((s6.setCell ⟨u3.heap.size, 0, none⟩ (.int .u8 (k' : Int))).setCell ⟨u3.heap.size, 1, none⟩ (.int .i64 at_')).setCell ⟨u3.heap.size, 2, none⟩ (.int .i64 many')).setCell ⟨u3.heap.size, 3, none⟩ (.slice a3 dn' c3')) = s7 at *
          refine hKq.out _ _ (Hs7.out) (fun hHeld => ?_)
          clear hKq Kq
          (try simp only [Act.put, List.setIfInBounds_toArray, List.set_cons_zero, List.set_cons_succ])
          refine PX.wpAnyY_done (by kernel_rfl) ?_ _
          refine NoPanic.normal ?_
          clear hHeld
          go_wp2_with fail
          go_meet
          exact ⟨u1.heap.size, u3.heap.size, a1, c1', a3, c3', rfl, rfl, BQ4.out, BQ5.out, TX.out.rd, TY.out.rd, Hs7.out⟩
        · go_simp
          have al : Below v4.heap.size v4 (v4.alloc (.cells #[.int .u8 0, .int .i64 0, .int .i64 0, .slice none 0 0] 32)) := (Below.refl _ _).alloc (Nat.le_refl _) _
          replace TX := Lib.hid (TX.out.alloc (.cells #[.int .u8 0, .int .i64 0, .int .i64 0, .slice none 0 0] 32))
          have ne4 : u1.heap.size ≠ v4.heap.size := Nat.ne_of_lt BQ4.out.lt
          have NE := Lib.hid ne4
          clear ne4
          replace BQ4 := Lib.hid (BQ4.out.here al)
          have BQ5 : Hid (Bx (v4.alloc (.cells #[.int .u8 0, .int .i64 0, .int .i64 0, .slice none 0 0] 32)) v4.heap.size [.int .u8 0, .int .i64 0, .int .i64 0, .slice none 0 0]) := Bx.new v4 [.int .u8 0, .int .i64 0, .int .i64 0, .slice none 0 0] 32
          have GE5 : Hid (W0.heap.size ≤ v4.heap.size) := hHeld.size
          have Hv5 : Hid (Below W0.heap.size W0 (v4.alloc (.cells #[.int .u8 0, .int .i64 0, .int .i64 0, .slice none 0 0] 32))) := hHeld.alloc hHeld.size _
          clear al hHeld
          generalize v4.alloc (.cells #[.int .u8 0, .int .i64 0, .int .i64 0, .slice none 0 0] 32) = v5 at *
          refine hKq.out _ _ (Hv5.out) (fun hHeld => ?_)
          clear hKq Kq
          (try simp only [Act.put, List.setIfInBounds_toArray, List.set_cons_zero, List.set_cons_succ])
          refine PX.wpAnyY_one (i := 3) (o := ?_) (by kernel_rfl) ?_ (fun Kq hKq => ?_)
          rotate_left
          · simp only [List.getElem?_toArray, List.getElem?_cons_succ, List.getElem?_cons_zero]; rfl
          go_simp
          (with_reducible refine (CT3.out _ ((HR'.out.below hHeld).mono hHeld.size)).mono ?_)
          rintro e u3 ⟨a3, c3', rfl, rt, bq⟩
          have lt4 := BQ4.out.lt
          have lt5 := BQ5.out.lt
          have TY := Lib.hid (Tw.new rt [v4.heap.size, u1.heap.size] (by intro g hg; simp only [List.mem_cons, List.not_mem_nil, or_false] at hg; omega))
          replace TX := Lib.hid (TX.out.below bq)
          replace BQ4 := Lib.hid (BQ4.out.here bq)
          replace BQ5 := Lib.hid (BQ5.out.here bq)
          have Hu3 := Lib.hid (thence hHeld bq (Nat.le_refl _))
          clear rt bq lt4 lt5
          obtain ⟨q0, q1, q2, q3⟩ := BQ4.out.four
          have fq0 := BQ4.out.frozen 0
          have fq1 := BQ4.out.frozen 1
          have fq2 := BQ4.out.frozen 2
          have fq3 := BQ4.out.frozen 3
          have ltq := BQ4.out.lt
          go_wp2_with fail
          refine hKq.out _ _ (Hu3.out) (fun hHeld => ?_)
          clear hKq Kq
          (try simp only [Act.put, List.setIfInBounds_toArray, List.set_cons_zero, List.set_cons_succ])
          refine PX.wpAnyY_one (i := 6) (o := ?_) (by kernel_rfl) ?_ (fun Kq hKq => ?_)
          rotate_left
          · simp only [List.getElem?_toArray, List.getElem?_cons_succ, List.getElem?_cons_zero]; rfl
          go_simp
          replace TX := Lib.hid ((((TX.out.set ⟨u1.heap.size, 0, none⟩ (.int .u8 (k : Int)) (by simp)).set ⟨u1.heap.size, 1, none⟩ (.int .i64 at_) (by simp)).set ⟨u1.heap.size, 2, none⟩ (.int .i64 many) (by simp)).set ⟨u1.heap.size, 3, none⟩ (.slice a1 dn c1') (by simp))
          replace TY := Lib.hid ((((TY.out.set ⟨u1.heap.size, 0, none⟩ (.int .u8 (k : Int)) (by simp)).set ⟨u1.heap.size, 1, none⟩ (.int .i64 at_) (by simp)).set ⟨u1.heap.size, 2, none⟩ (.int .i64 many) (by simp)).set ⟨u1.heap.size, 3, none⟩ (.slice a1 dn c1') (by simp))
          replace BQ4 : Hid (Bx ((((u3.setCell ⟨u1.heap.size, 0, none⟩ (.int .u8 (k : Int))).setCell ⟨u1.heap.size, 1, none⟩ (.int .i64 at_)).setCell ⟨u1.heap.size, 2, none⟩ (.int .i64 many)).setCell ⟨u1.heap.size, 3, none⟩ (.slice a1 dn c1')) u1.heap.size [.int .u8 (k : Int), .int .i64 at_, .int .i64 many, .slice a1 dn c1']) := ((((BQ4.out.set 0 (.int .u8 (k : Int))).set 1 (.int .i64 at_)).set 2 (.int .i64 many)).set 3 (.slice a1 dn c1'))
          replace BQ5 := Lib.hid ((((BQ5.out.other ⟨u1.heap.size, 0, none⟩ (by show u1.heap.size ≠ v4.heap.size; have := NE.out; omega) (.int .u8 (k : Int))).other ⟨u1.heap.size, 1, none⟩ (by show u1.heap.size ≠ v4.heap.size; have := NE.out; omega) (.int .i64 at_)).other ⟨u1.heap.size, 2, none⟩ (by show u1.heap.size ≠ v4.heap.size; have := NE.out; omega) (.int .i64 many)).other ⟨u1.heap.size, 3, none⟩ (by show u1.heap.size ≠ v4.heap.size; have := NE.out; omega) (.slice a1 dn c1'))
          have Hs6 := Lib.hid ((((hHeld.setCell (p := ⟨u1.heap.size, 0, none⟩) GE4.out (.int .u8 (k : Int))).setCell (p := ⟨u1.heap.size, 1, none⟩) GE4.out (.int .i64 at_)).setCell (p := ⟨u1.heap.size, 2, none⟩) GE4.out (.int .i64 many)).setCell (p := ⟨u1.heap.size, 3, none⟩) GE4.out (.slice a1 dn c1'))
          clear hHeld q0 q1 q2 q3 fq0 fq1 fq2 fq3 ltq
          generalize ((((u3.setCell ⟨u1.heap.size, 0, none⟩ (.int .u8 (k : Int))).setCell ⟨u1.heap.size, 1, none⟩ (.int .i64 at_)).setCell ⟨u1.heap.size, 2, none⟩ (.int .i64 many)).setCell ⟨u1.heap.size, 3, none⟩ (.slice a1 dn c1')) = s6 at *
          obtain ⟨q0, q1, q2, q3⟩ := BQ5.out.four
          have fq0 := BQ5.out.frozen 0
          have fq1 := BQ5.out.frozen 1
          have fq2 := BQ5.out.frozen 2
          have fq3 := BQ5.out.frozen 3
          have ltq := BQ5.out.lt
          refine hKq.out _ _ (Hs6.out) (fun hHeld => ?_)
          clear hKq Kq
          (try simp only [Act.put, List.setIfInBounds_toArray, List.set_cons_zero, List.set_cons_succ])
          refine PX.wpAnyY_one (i := 7) (o := ?_) (by kernel_rfl) ?_ (fun Kq hKq => ?_)
          rotate_left
          · simp only [List.getElem?_toArray, List.getElem?_cons_succ, List.getElem?_cons_zero]; rfl
          go_simp
          replace TX := Lib.hid ((((TX.out.set ⟨v4.heap.size, 0, none⟩ (.int .u8 (k' : Int)) (by simp)).set ⟨v4.heap.size, 1, none⟩ (.int .i64 at_') (by simp)).set ⟨v4.heap.size, 2, none⟩ (.int .i64 many') (by simp)).set ⟨v4.heap.size, 3, none⟩ (.slice a3 dn' c3') (by simp))
          replace TY := Lib.hid ((((TY.out.set ⟨v4.heap.size, 0, none⟩ (.int .u8 (k' : Int)) (by simp)).set ⟨v4.heap.size, 1, none⟩ (.int .i64 at_') (by simp)).set ⟨v4.heap.size, 2, none⟩ (.int .i64 many') (by simp)).set ⟨v4.heap.size, 3, none⟩ (.slice a3 dn' c3') (by simp))
          replace BQ5 : Hid (Bx ((((s6.setCell ⟨v4.heap.size, 0, none⟩ (.int .u8 (k' : Int))).setCell ⟨v4.heap.size, 1, none⟩ (.int .i64 at_')).setCell ⟨v4.heap.size, 2, none⟩ (.int .i64 many')).setCell ⟨v4.heap.size, 3, none⟩ (.slice a3 dn' c3')) v4.heap.size [.int .u8 (k' : Int), .int .i64 at_', .int .i64 many', .slice a3 dn' c3']) := ((((BQ5.out.set 0 (.int .u8 (k' : Int))).set 1 (.int .i64 at_')).set 2 (.int .i64 many')).set 3 (.slice a3 dn' c3'))
          replace BQ4 := Lib.hid ((((BQ4.out.other ⟨v4.heap.size, 0, none⟩ (by show v4.heap.size ≠ u1.heap.size; have := NE.out; omega) (.int .u8 (k' : Int))).other ⟨v4.heap.size, 1, none⟩ (by show v4.heap.size ≠ u1.heap.size; have := NE.out; omega) (.int .i64 at_')).other ⟨v4.heap.size, 2, none⟩ (by show v4.heap.size ≠ u1.heap.size; have := NE.out; omega) (.int .i64 many')).other ⟨v4.heap.size, 3, none⟩ (by show v4.heap.size ≠ u1.heap.size; have := NE.out; omega) (.slice a3 dn' c3'))
          have Hs7 := Lib.hid ((((hHeld.setCell (p := ⟨v4.heap.size, 0, none⟩) GE5.out (.int .u8 (k' : Int))).setCell (p := ⟨v4.heap.size, 1, none⟩) GE5.out (.int .i64 at_')).setCell (p := ⟨v4.heap.size, 2, none⟩) GE5.out (.int .i64 many')).setCell (p := ⟨v4.heap.size, 3, none⟩) GE5.out (.slice a3 dn' c3'))
          clear hHeld q0 q1 q2 q3 fq0 fq1 fq2 fq3 ltq
          generalize ((((s6.setCell ⟨v4.heap.size, 0, none⟩ (.int .u8 (k' : Int))).setCell ⟨v4.heap.size, 1, none⟩ (.int .i64 at_')).setCell ⟨v4.heap.size, 2, none⟩ (.int .i64 many')).setCell ⟨v4.heap.size, 3, none⟩ (.slice a3 dn' c3')) = s7 at *
          refine hKq.out _ _ (Hs7.out) (fun hHeld => ?_)
          clear hKq Kq
          (try simp only [Act.put, List.setIfInBounds_toArray, List.set_cons_zero, List.set_cons_succ])
          refine PX.wpAnyY_done (by kernel_rfl) ?_ _
          refine NoPanic.normal ?_
          clear hHeld
          go_wp2_with fail
          go_meet
          exact ⟨u1.heap.size, v4.heap.size, a1, c1', a3, c3', rfl, rfl, BQ4.out, BQ5.out, TX.out.rd, TY.out.rd, Hs7.out⟩
      · go_simp
        have al : Below u1.heap.size u1 (u1.alloc (.cells #[.int .u8 0, .int .i64 0, .int .i64 0, .slice none 0 0] 32)) := (Below.refl _ _).alloc (Nat.le_refl _) _
        replace TX := Lib.hid (TX.out.alloc (.cells #[.int .u8 0, .int .i64 0, .int .i64 0, .slice none 0 0] 32))
        have BQ5 : Hid (Bx (u1.alloc (.cells #[.int .u8 0, .int .i64 0, .int .i64 0, .slice none 0 0] 32)) u1.heap.size [.int .u8 0, .int .i64 0, .int .i64 0, .slice none 0 0]) := Bx.new u1 [.int .u8 0, .int .i64 0, .int .i64 0, .slice none 0 0] 32
        have GE5 : Hid (W0.heap.size ≤ u1.heap.size) := hHeld.size
        have Hv5 : Hid (Below W0.heap.size W0 (u1.alloc (.cells #[.int .u8 0, .int .i64 0, .int .i64 0, .slice none 0 0] 32))) := hHeld.alloc hHeld.size _
        clear al hHeld
        generalize u1.alloc (.cells #[.int .u8 0, .int .i64 0, .int .i64 0, .slice none 0 0] 32) = v5 at *
        refine hKq.out _ _ (Hv5.out) (fun hHeld => ?_)
        clear hKq Kq
        (try simp only [Act.put, List.setIfInBounds_toArray, List.set_cons_zero, List.set_cons_succ])
        refine PX.wpAnyY_two (i := 3) (j := 4) (o := ?_) (o' := ?_) (by kernel_rfl) ?_ ?_ (fun Kq hKq => ?_) (fun Kq hKq => ?_)
        rotate_left 2
        · simp only [List.getElem?_toArray, List.getElem?_cons_succ, List.getElem?_cons_zero]; rfl
        · simp only [List.getElem?_toArray, List.getElem?_cons_succ, List.getElem?_cons_zero]; rfl
        · go_simp
          (with_reducible refine (CT3.out _ ((HR'.out.below hHeld).mono hHeld.size)).mono ?_)
          rintro e u3 ⟨a3, c3', rfl, rt, bq⟩
          have lt5 := BQ5.out.lt
          have TY := Lib.hid (Tw.new rt [u1.heap.size] (by intro g hg; simp only [List.mem_cons, List.not_mem_nil, or_false] at hg; omega))
          replace TX := Lib.hid (TX.out.below bq)
          replace BQ5 := Lib.hid (BQ5.out.here bq)
          have Hu3 := Lib.hid (thence hHeld bq (Nat.le_refl _))
          clear rt bq lt5
          go_wp2_with fail
          refine hKq.out _ _ (Hu3.out) (fun hHeld => ?_)
          clear hKq Kq
          (try simp only [Act.put, List.setIfInBounds_toArray, List.set_cons_zero, List.set_cons_succ])
          refine PX.wpAnyY_one (i := 4) (o := ?_) (by kernel_rfl) ?_ (fun Kq hKq => ?_)
          rotate_left
          · simp only [List.getElem?_toArray, List.getElem?_cons_succ, List.getElem?_cons_zero]; rfl
          go_simp
          have al : Below u3.heap.size u3 (u3.alloc (.cells #[.int .u8 0, .int .i64 0, .int .i64 0, .slice none 0 0] 32)) := (Below.refl _ _).alloc (Nat.le_refl _) _
          replace TX := Lib.hid (TX.out.alloc (.cells #[.int .u8 0, .int .i64 0, .int .i64 0, .slice none 0 0] 32))
          replace TY := Lib.hid (TY.out.alloc (.cells #[.int .u8 0, .int .i64 0, .int .i64 0, .slice none 0 0] 32))
          have ne5 : u1.heap.size ≠ u3.heap.size := Nat.ne_of_lt BQ5.out.lt
          have NE := Lib.hid ne5
          clear ne5
          replace BQ5 := Lib.hid (BQ5.out.here al)
          have BQ4 : Hid (Bx (u3.alloc (.cells #[.int .u8 0, .int .i64 0, .int .i64 0, .slice none 0 0] 32)) u3.heap.size [.int .u8 0, .int .i64 0, .int .i64 0, .slice none 0 0]) := Bx.new u3 [.int .u8 0, .int .i64 0, .int .i64 0, .slice none 0 0] 32
          have GE4 : Hid (W0.heap.size ≤ u3.heap.size) := hHeld.size
          have Hv4 : Hid (Below W0.heap.size W0 (u3.alloc (.cells #[.int .u8 0, .int .i64 0, .int .i64 0, .slice none 0 0] 32))) := hHeld.alloc hHeld.size _
          clear al hHeld
          generalize u3.alloc (.cells #[.int .u8 0, .int .i64 0, .int .i64 0, .slice none 0 0] 32) = v4 at *
          obtain ⟨q0, q1, q2, q3⟩ := BQ4.out.four
          have fq0 := BQ4.out.frozen 0
          have fq1 := BQ4.out.frozen 1
          have fq2 := BQ4.out.frozen 2
          have fq3 := BQ4.out.frozen 3
          have ltq := BQ4.out.lt
          refine hKq.out _ _ (Hv4.out) (fun hHeld => ?_)
          clear hKq Kq
          (try simp only [Act.put, List.setIfInBounds_toArray, List.set_cons_zero, List.set_cons_succ])
          refine PX.wpAnyY_one (i := 6) (o := ?_) (by kernel_rfl) ?_ (fun Kq hKq => ?_)
          rotate_left
          · simp only [List.getElem?_toArray, List.getElem?_cons_succ, List.getElem?_cons_zero]; rfl
          go_simp
          replace TX := Lib.hid ((((TX.out.set ⟨u3.heap.size, 0, none⟩ (.int .u8 (k : Int)) (by simp)).set ⟨u3.heap.size, 1, none⟩ (.int .i64 at_) (by simp)).set ⟨u3.heap.size, 2, none⟩ (.int .i64 many) (by simp)).set ⟨u3.heap.size, 3, none⟩ (.slice a1 dn c1') (by simp))
          replace TY := Lib.hid ((((TY.out.set ⟨u3.heap.size, 0, none⟩ (.int .u8 (k : Int)) (by simp)).set ⟨u3.heap.size, 1, none⟩ (.int .i64 at_) (by simp)).set ⟨u3.heap.size, 2, none⟩ (.int .i64 many) (by simp)).set ⟨u3.heap.size, 3, none⟩ (.slice a1 dn c1') (by simp))
          replace BQ4 : Hid (Bx ((((v4.setCell ⟨u3.heap.size, 0, none⟩ (.int .u8 (k : Int))).setCell ⟨u3.heap.size, 1, none⟩ (.int .i64 at_)).setCell ⟨u3.heap.size, 2, none⟩ (.int .i64 many)).setCell ⟨u3.heap.size, 3, none⟩ (.slice a1 dn c1')) u3.heap.size [.int .u8 (k : Int), .int .i64 at_, .int .i64 many, .slice a1 dn c1']) := ((((BQ4.out.set 0 (.int .u8 (k : Int))).set 1 (.int .i64 at_)).set 2 (.int .i64 many)).set 3 (.slice a1 dn c1'))
          replace BQ5 := Lib.hid ((((BQ5.out.other ⟨u3.heap.size, 0, none⟩ (by show u3.heap.size ≠ u1.heap.size; have := NE.out; omega) (.int .u8 (k : Int))).other ⟨u3.heap.size, 1, none⟩ (by show u3.heap.size ≠ u1.heap.size; have := NE.out; omega) (.int .i64 at_)).other ⟨u3.heap.size, 2, none⟩ (by show u3.heap.size ≠ u1.heap.size; have := NE.out; omega) (.int .i64 many)).other ⟨u3.heap.size, 3, none⟩ (by show u3.heap.size ≠ u1.heap.size; have := NE.out; omega) (.slice a1 dn c1'))
          have Hs6 := Lib.hid ((((hHeld.setCell (p := ⟨u3.heap.size, 0, none⟩) GE4.out (.int .u8 (k : Int))).setCell (p := ⟨u3.heap.size, 1, none⟩) GE4.out (.int .i64 at_)).setCell (p := ⟨u3.heap.size, 2, none⟩) GE4.out (.int .i64 many)).setCell (p := ⟨u3.heap.size, 3, none⟩) GE4.out (.slice a1 dn c1'))
          clear hHeld q0 q1 q2 q3 fq0 fq1 fq2 fq3 ltq
          generalize ((((v4.setCell ⟨u3.heap.size, 0, none⟩ (.int .u8 (k : Int))).setCell ⟨u3.heap.size, 1, none⟩ (.int .i64 at_)).setCell ⟨u3.heap.size, 2, none⟩ (.int .i64 many)).setCell ⟨u3.heap.size, 3, none⟩ (.slice a1 dn c1')) = s6 at *
          obtain ⟨q0, q1, q2, q3⟩ := BQ5.out.four
          have fq0 := BQ5.out.frozen 0
          have fq1 := BQ5.out.frozen 1
          have fq2 := BQ5.out.frozen 2
          have fq3 := BQ5.out.frozen 3
          have ltq := BQ5.out.lt
          refine hKq.out _ _ (Hs6.out) (fun hHeld => ?_)
          clear hKq Kq
          (try simp only [Act.put, List.setIfInBounds_toArray, List.set_cons_zero, List.set_cons_succ])
          refine PX.wpAnyY_one (i := 7) (o := ?_) (by kernel_rfl) ?_ (fun Kq hKq => ?_)
          rotate_left
          · simp only [List.getElem?_toArray, List.getElem?_cons_succ, List.getElem?_cons_zero]; rfl
          go_simp
          replace TX := Lib.hid ((((TX.out.set ⟨u1.heap.size, 0, none⟩ (.int .u8 (k' : Int)) (by simp)).set ⟨u1.heap.size, 1, none⟩ (.int .i64 at_') (by simp)).set ⟨u1.heap.size, 2, none⟩ (.int .i64 many') (by simp)).set ⟨u1.heap.size, 3, none⟩ (.slice a3 dn' c3') (by simp))
          replace TY := Lib.hid ((((TY.out.set ⟨u1.heap.size, 0, none⟩ (.int .u8 (k' : Int)) (by simp)).set ⟨u1.heap.size, 1, none⟩ (.int .i64 at_') (by simp)).set ⟨u1.heap.size, 2, none⟩ (.int .i64 many') (by simp)).set ⟨u1.heap.size, 3, none⟩ (.slice a3 dn' c3') (by simp))
          replace BQ5 : Hid (Bx ((((s6.setCell ⟨u1.heap.size, 0, none⟩ (.int .u8 (k' : Int))).setCell ⟨u1.heap.size, 1, none⟩ (.int .i64 at_')).setCell ⟨u1.heap.size, 2, none⟩ (.int .i64 many')).setCell ⟨u1.heap.size, 3, none⟩ (.slice a3 dn' c3')) u1.heap.size [.int .u8 (k' : Int), .int .i64 at_', .int .i64 many', .slice a3 dn' c3']) := ((((BQ5.out.set 0 (.int .u8 (k' : Int))).set 1 (.int .i64 at_')).set 2 (.int .i64 many')).set 3 (.slice a3 dn' c3'))
          replace BQ4 := Lib.hid ((((BQ4.out.other ⟨u1.heap.size, 0, none⟩ (by show u1.heap.size ≠ u3.heap.size; have := NE.out; omega) (.int .u8 (k' : Int))).other ⟨u1.heap.size, 1, none⟩ (by show u1.heap.size ≠ u3.heap.size; have := NE.out; omega) (.int .i64 at_')).other ⟨u1.heap.size, 2, none⟩ (by show u1.heap.size ≠ u3.heap.size; have := NE.out; omega) (.int .i64 many')).other ⟨u1.heap.size, 3, none⟩ (by show u1.heap.size ≠ u3.heap.size; have := NE.out; omega) (.slice a3 dn' c3'))
          have Hs7 := Lib.hid ((((hHeld.setCell (p := ⟨u1.heap.size, 0, none⟩) GE5.out (.int .u8 (k' : Int))).setCell (p := ⟨u1.heap.size, 1, none⟩) GE5.out (.int .i64 at_')).setCell (p := ⟨u1.heap.size, 2, none⟩) GE5.out (.int .i64 many')).setCell (p := ⟨u1.heap.size, 3, none⟩) GE5.out (.slice a3 dn' c3'))
          clear hHeld q0 q1 q2 q3 fq0 fq1 fq2 fq3 ltq
          generalize ((((s6.setCell ⟨u1.heap.size, 0, none⟩ (.int .u8 (k' : Int))).setCell ⟨u1.heap.size, 1, none⟩ (.int .i64 at_')).setCell ⟨u1.heap.size, 2, none⟩ (.int .i64 many')).setCell ⟨u1.heap.size, 3, none⟩ (.slice a3 dn' c3')) = s7 at *
          refine hKq.out _ _ (Hs7.out) (fun hHeld => ?_)
          clear hKq Kq
          (try simp only [Act.put, List.setIfInBounds_toArray, List.set_cons_zero, List.set_cons_succ])
          refine PX.wpAnyY_done (by kernel_rfl) ?_ _
          refine NoPanic.normal ?_
          clear hHeld
          go_wp2_with fail
          go_meet
          exact ⟨u3.heap.size, u1.heap.size, a1, c1', a3, c3', rfl, rfl, BQ4.out, BQ5.out, TX.out.rd, TY.out.rd, Hs7.out⟩
        · go_simp
          have al : Below v5.heap.size v5 (v5.alloc (.cells #[.int .u8 0, .int .i64 0, .int .i64 0, .slice none 0 0] 32)) := (Below.refl _ _).alloc (Nat.le_refl _) _
          replace TX := Lib.hid (TX.out.alloc (.cells #[.int .u8 0, .int .i64 0, .int .i64 0, .slice none 0 0] 32))
          have ne5 : u1.heap.size ≠ v5.heap.size := Nat.ne_of_lt BQ5.out.lt
          have NE := Lib.hid ne5
          clear ne5
          replace BQ5 := Lib.hid (BQ5.out.here al)
          have BQ4 : Hid (Bx (v5.alloc (.cells #[.int .u8 0, .int .i64 0, .int .i64 0, .slice none 0 0] 32)) v5.heap.size [.int .u8 0, .int .i64 0, .int .i64 0, .slice none 0 0]) := Bx.new v5 [.int .u8 0, .int .i64 0, .int .i64 0, .slice none 0 0] 32
          have GE4 : Hid (W0.heap.size ≤ v5.heap.size) := hHeld.size
          have Hv4 : Hid (Below W0.heap.size W0 (v5.alloc (.cells #[.int .u8 0, .int .i64 0, .int .i64 0, .slice none 0 0] 32))) := hHeld.alloc hHeld.size _
          clear al hHeld
          generalize v5.alloc (.cells #[.int .u8 0, .int .i64 0, .int .i64 0, .slice none 0 0] 32) = v4 at *
          refine hKq.out _ _ (Hv4.out) (fun hHeld => ?_)
          clear hKq Kq
          (try simp only [Act.put, List.setIfInBounds_toArray, List.set_cons_zero, List.set_cons_succ])
          refine PX.wpAnyY_one (i := 3) (o := ?_) (by kernel_rfl) ?_ (fun Kq hKq => ?_)
          rotate_left
          · simp only [List.getElem?_toArray, List.getElem?_cons_succ, List.getElem?_cons_zero]; rfl
          go_simp
          (with_reducible refine (CT3.out _ ((HR'.out.below hHeld).mono hHeld.size)).mono ?_)
          rintro e u3 ⟨a3, c3', rfl, rt, bq⟩
          have lt4 := BQ4.out.lt
          have lt5 := BQ5.out.lt
          have TY := Lib.hid (Tw.new rt [v5.heap.size, u1.heap.size] (by intro g hg; simp only [List.mem_cons, List.not_mem_nil, or_false] at hg; omega))
          replace TX := Lib.hid (TX.out.below bq)
          replace BQ4 := Lib.hid (BQ4.out.here bq)
          replace BQ5 := Lib.hid (BQ5.out.here bq)
          have Hu3 := Lib.hid (thence hHeld bq (Nat.le_refl _))
          clear rt bq lt4 lt5
          obtain ⟨q0, q1, q2, q3⟩ := BQ4.out.four
          have fq0 := BQ4.out.frozen 0
          have fq1 := BQ4.out.frozen 1
          have fq2 := BQ4.out.frozen 2
          have fq3 := BQ4.out.frozen 3
          have ltq := BQ4.out.lt
          go_wp2_with fail
          refine hKq.out _ _ (Hu3.out) (fun hHeld => ?_)
          clear hKq Kq
          (try simp only [Act.put, List.setIfInBounds_toArray, List.set_cons_zero, List.set_cons_succ])
          refine PX.wpAnyY_one (i := 6) (o := ?_) (by kernel_rfl) ?_ (fun Kq hKq => ?_)
          rotate_left
          · simp only [List.getElem?_toArray, List.getElem?_cons_succ, List.getElem?_cons_zero]; rfl
          go_simp
          replace TX := Lib.hid ((((TX.out.set ⟨v5.heap.size, 0, none⟩ (.int .u8 (k : Int)) (by simp)).set ⟨v5.heap.size, 1, none⟩ (.int .i64 at_) (by simp)).set ⟨v5.heap.size, 2, none⟩ (.int .i64 many) (by simp)).set ⟨v5.heap.size, 3, none⟩ (.slice a1 dn c1') (by simp))
          replace TY := Lib.hid ((((TY.out.set ⟨v5.heap.size, 0, none⟩ (.int .u8 (k : Int)) (by simp)).set ⟨v5.heap.size, 1, none⟩ (.int .i64 at_) (by simp)).set ⟨v5.heap.size, 2, none⟩ (.int .i64 many) (by simp)).set ⟨v5.heap.size, 3, none⟩ (.slice a1 dn c1') (by simp))
          replace BQ4 : Hid (Bx ((((u3.setCell ⟨v5.heap.size, 0, none⟩ (.int .u8 (k : Int))).setCell ⟨v5.heap.size, 1, none⟩ (.int .i64 at_)).setCell ⟨v5.heap.size, 2, none⟩ (.int .i64 many)).setCell ⟨v5.heap.size, 3, none⟩ (.slice a1 dn c1')) v5.heap.size [.int .u8 (k : Int), .int .i64 at_, .int .i64 many, .slice a1 dn c1']) := ((((BQ4.out.set 0 (.int .u8 (k : Int))).set 1 (.int .i64 at_)).set 2 (.int .i64 many)).set 3 (.slice a1 dn c1'))
          replace BQ5 := Lib.hid ((((BQ5.out.other ⟨v5.heap.size, 0, none⟩ (by show v5.heap.size ≠ u1.heap.size; have := NE.out; omega) (.int .u8 (k : Int))).other ⟨v5.heap.size, 1, none⟩ (by show v5.heap.size ≠ u1.heap.size; have := NE.out; omega) (.int .i64 at_)).other ⟨v5.heap.size, 2, none⟩ (by show v5.heap.size ≠ u1.heap.size; have := NE.out; omega) (.int .i64 many)).other ⟨v5.heap.size, 3, none⟩ (by show v5.heap.size ≠ u1.heap.size; have := NE.out; omega) (.slice a1 dn c1'))
          have Hs6 := Lib.hid ((((hHeld.setCell (p := ⟨v5.heap.size, 0, none⟩) GE4.out (.int .u8 (k : Int))).setCell (p := ⟨v5.heap.size, 1, none⟩) GE4.out (.int .i64 at_)).setCell (p := ⟨v5.heap.size, 2, none⟩) GE4.out (.int .i64 many)).setCell (p := ⟨v5.heap.size, 3, none⟩) GE4.out (.slice a1 dn c1'))
          clear hHeld q0 q1 q2 q3 fq0 fq1 fq2 fq3 ltq
          generalize ((((u3.setCell ⟨v5.heap.size, 0, none⟩ (.int .u8 (k : Int))).setCell ⟨v5.heap.size, 1, none⟩ (.int .i64 at_)).setCell ⟨v5.heap.size, 2, none⟩ (.int .i64 many)).setCell ⟨v5.heap.size, 3, none⟩ (.slice a1 dn c1')) = s6 at *
          obtain ⟨q0, q1, q2, q3⟩ := BQ5.out.four
          have fq0 := BQ5.out.frozen 0
          have fq1 := BQ5.out.frozen 1
          have fq2 := BQ5.out.frozen 2
          have fq3 := BQ5.out.frozen 3
          have ltq := BQ5.out.lt
          refine hKq.out _ _ (Hs6.out) (fun hHeld => ?_)
          clear hKq Kq
          (try simp only [Act.put, List.setIfInBounds_toArray, List.set_cons_zero, List.set_cons_succ])
          refine PX.wpAnyY_one (i := 7) (o := ?_) (by kernel_rfl) ?_ (fun Kq hKq => ?_)
          rotate_left
          · simp only [List.getElem?_toArray, List.getElem?_cons_succ, List.getElem?_cons_zero]; rfl
          go_simp
          replace TX := Lib.hid ((((TX.out.set ⟨u1.heap.size, 0, none⟩ (.int .u8 (k' : Int)) (by simp)).set ⟨u1.heap.size, 1, none⟩ (.int .i64 at_') (by simp)).set ⟨u1.heap.size, 2, none⟩ (.int .i64 many') (by simp)).set ⟨u1.heap.size, 3, none⟩ (.slice a3 dn' c3') (by simp))
          replace TY := Lib.hid ((((TY.out.set ⟨u1.heap.size, 0, none⟩ (.int .u8 (k' : Int)) (by simp)).set ⟨u1.heap.size, 1, none⟩ (.int .i64 at_') (by simp)).set ⟨u1.heap.size, 2, none⟩ (.int .i64 many') (by simp)).set ⟨u1.heap.size, 3, none⟩ (.slice a3 dn' c3') (by simp))
          replace BQ5 : Hid (Bx ((((s6.setCell ⟨u1.heap.size, 0, none⟩ (.int .u8 (k' : Int))).setCell ⟨u1.heap.size, 1, none⟩ (.int .i64 at_')).setCell ⟨u1.heap.size, 2, none⟩ (.int .i64 many')).setCell ⟨u1.heap.size, 3, none⟩ (.slice a3 dn' c3')) u1.heap.size [.int .u8 (k' : Int), .int .i64 at_', .int .i64 many', .slice a3 dn' c3']) := ((((BQ5.out.set 0 (.int .u8 (k' : Int))).set 1 (.int .i64 at_')).set 2 (.int .i64 many')).set 3 (.slice a3 dn' c3'))
          replace BQ4 := Lib.hid ((((BQ4.out.other ⟨u1.heap.size, 0, none⟩ (by show u1.heap.size ≠ v5.heap.size; have := NE.out; omega) (.int .u8 (k' : Int))).other ⟨u1.heap.size, 1, none⟩ (by show u1.heap.size ≠ v5.heap.size; have := NE.out; omega) (.int .i64 at_')).other ⟨u1.heap.size, 2, none⟩ (by show u1.heap.size ≠ v5.heap.size; have := NE.out; omega) (.int .i64 many')).other ⟨u1.heap.size, 3, none⟩ (by show u1.heap.size ≠ v5.heap.size; have := NE.out; omega) (.slice a3 dn' c3'))
          have Hs7 := Lib.hid ((((hHeld.setCell (p := ⟨u1.heap.size, 0, none⟩) GE5.out (.int .u8 (k' : Int))).setCell (p := ⟨u1.heap.size, 1, none⟩) GE5.out (.int .i64 at_')).setCell (p := ⟨u1.heap.size, 2, none⟩) GE5.out (.int .i64 many')).setCell (p := ⟨u1.heap.size, 3, none⟩) GE5.out (.slice a3 dn' c3'))
          clear hHeld q0 q1 q2 q3 fq0 fq1 fq2 fq3 ltq
          generalize ((((s6.setCell ⟨u1.heap.size, 0, none⟩ (.int .u8 (k' : Int))).setCell ⟨u1.heap.size, 1, none⟩ (.int .i64 at_')).setCell ⟨u1.heap.size, 2, none⟩ (.int .i64 many')).setCell ⟨u1.heap.size, 3, none⟩ (.slice a3 dn' c3')) = s7 at *
          refine hKq.out _ _ (Hs7.out) (fun hHeld => ?_)
          clear hKq Kq
          (try simp only [Act.put, List.setIfInBounds_toArray, List.set_cons_zero, List.set_cons_succ])
          refine PX.wpAnyY_done (by kernel_rfl) ?_ _
          refine NoPanic.normal ?_
          clear hHeld
          go_wp2_with fail
          go_meet
          exact ⟨v5.heap.size, u1.heap.size, a1, c1', a3, c3', rfl, rfl, BQ4.out, BQ5.out, TX.out.rd, TY.out.rd, Hs7.out⟩
    · go_simp
      have al : Below V0.heap.size V0 (V0.alloc (.cells #[.int .u8 0, .int .i64 0, .int .i64 0, .slice none 0 0] 32)) := (Below.refl _ _).alloc (Nat.le_refl _) _
      have BQ4 : Hid (Bx (V0.alloc (.cells #[.int .u8 0, .int .i64 0, .int .i64 0, .slice none 0 0] 32)) V0.heap.size [.int .u8 0, .int .i64 0, .int .i64 0, .slice none 0 0]) := Bx.new V0 [.int .u8 0, .int .i64 0, .int .i64 0, .slice none 0 0] 32
      have GE4 : Hid (W0.heap.size ≤ V0.heap.size) := hHeld.size
      have Hv4 : Hid (Below W0.heap.size W0 (V0.alloc (.cells #[.int .u8 0, .int .i64 0, .int .i64 0, .slice none 0 0] 32))) := hHeld.alloc hHeld.size _
      clear al hHeld
      generalize V0.alloc (.cells #[.int .u8 0, .int .i64 0, .int .i64 0, .slice none 0 0] 32) = v4 at *
      refine hKq.out _ _ (Hv4.out) (fun hHeld => ?_)
      clear hKq Kq
      (try simp only [Act.put, List.setIfInBounds_toArray, List.set_cons_zero, List.set_cons_succ])
      refine PX.wpAnyY_two (i := 1) (j := 5) (o := ?_) (o' := ?_) (by kernel_rfl) ?_ ?_ (fun Kq hKq => ?_) (fun Kq hKq => ?_)
      rotate_left 2
      · simp only [List.getElem?_toArray, List.getElem?_cons_succ, List.getElem?_cons_zero]; rfl
      · simp only [List.getElem?_toArray, List.getElem?_cons_succ, List.getElem?_cons_zero]; rfl
      · go_simp
        (with_reducible refine (CT1.out _ ((HR.out.below hHeld).mono hHeld.size)).mono ?_)
        rintro e u1 ⟨a1, c1', rfl, rt, bq⟩
        have lt4 := BQ4.out.lt
        have TX := Lib.hid (Tw.new rt [V0.heap.size] (by intro g hg; simp only [List.mem_cons, List.not_mem_nil, or_false] at hg; omega))
        replace BQ4 := Lib.hid (BQ4.out.here bq)
        have Hu1 := Lib.hid (thence hHeld bq (Nat.le_refl _))
        clear rt bq lt4
        go_wp2_with fail
        refine hKq.out _ _ (Hu1.out) (fun hHeld => ?_)
        clear hKq Kq
        (try simp only [Act.put, List.setIfInBounds_toArray, List.set_cons_zero, List.set_cons_succ])
        refine PX.wpAnyY_two (i := 3) (j := 5) (o := ?_) (o' := ?_) (by kernel_rfl) ?_ ?_ (fun Kq hKq => ?_) (fun Kq hKq => ?_)
        rotate_left 2
        · simp only [List.getElem?_toArray, List.getElem?_cons_succ, List.getElem?_cons_zero]; rfl
        · simp only [List.getElem?_toArray, List.getElem?_cons_succ, List.getElem?_cons_zero]; rfl
        · go_simp
          (with_reducible refine (CT3.out _ ((HR'.out.below hHeld).mono hHeld.size)).mono ?_)
          rintro e u3 ⟨a3, c3', rfl, rt, bq⟩
          have lt4 := BQ4.out.lt
          have TY := Lib.hid (Tw.new rt [V0.heap.size] (by intro g hg; simp only [List.mem_cons, List.not_mem_nil, or_false] at hg; omega))
          replace TX := Lib.hid (TX.out.below bq)
          replace BQ4 := Lib.hid (BQ4.out.here bq)
          have Hu3 := Lib.hid (thence hHeld bq (Nat.le_refl _))
          clear rt bq lt4
          go_wp2_with fail
          refine hKq.out _ _ (Hu3.out) (fun hHeld => ?_)
          clear hKq Kq
          (try simp only [Act.put, List.setIfInBounds_toArray, List.set_cons_zero, List.set_cons_succ])
          refine PX.wpAnyY_one (i := 5) (o := ?_) (by kernel_rfl) ?_ (fun Kq hKq => ?_)
          rotate_left
          · simp only [List.getElem?_toArray, List.getElem?_cons_succ, List.getElem?_cons_zero]; rfl
          go_simp
          have al : Below u3.heap.size u3 (u3.alloc (.cells #[.int .u8 0, .int .i64 0, .int .i64 0, .slice none 0 0] 32)) := (Below.refl _ _).alloc (Nat.le_refl _) _
          replace TX := Lib.hid (TX.out.alloc (.cells #[.int .u8 0, .int .i64 0, .int .i64 0, .slice none 0 0] 32))
          replace TY := Lib.hid (TY.out.alloc (.cells #[.int .u8 0, .int .i64 0, .int .i64 0, .slice none 0 0] 32))
          have ne4 : V0.heap.size ≠ u3.heap.size := Nat.ne_of_lt BQ4.out.lt
          have NE := Lib.hid ne4
          clear ne4
          replace BQ4 := Lib.hid (BQ4.out.here al)
          have BQ5 : Hid (Bx (u3.alloc (.cells #[.int .u8 0, .int .i64 0, .int .i64 0, .slice none 0 0] 32)) u3.heap.size [.int .u8 0, .int .i64 0, .int .i64 0, .slice none 0 0]) := Bx.new u3 [.int .u8 0, .int .i64 0, .int .i64 0, .slice none 0 0] 32
          have GE5 : Hid (W0.heap.size ≤ u3.heap.size) := hHeld.size
          have Hv5 : Hid (Below W0.heap.size W0 (u3.alloc (.cells #[.int .u8 0, .int .i64 0, .int .i64 0, .slice none 0 0] 32))) := hHeld.alloc hHeld.size _
          clear al hHeld
          generalize u3.alloc (.cells #[.int .u8 0, .int .i64 0, .int .i64 0, .slice none 0 0] 32) = v5 at *
          obtain ⟨q0, q1, q2, q3⟩ := BQ4.out.four
          have fq0 := BQ4.out.frozen 0
          have fq1 := BQ4.out.frozen 1
          have fq2 := BQ4.out.frozen 2
          have fq3 := BQ4.out.frozen 3
          have ltq := BQ4.out.lt
          refine hKq.out _ _ (Hv5.out) (fun hHeld => ?_)
          clear hKq Kq
          (try simp only [Act.put, List.setIfInBounds_toArray, List.set_cons_zero, List.set_cons_succ])
          refine PX.wpAnyY_one (i := 6) (o := ?_) (by kernel_rfl) ?_ (fun Kq hKq => ?_)
          rotate_left
          · simp only [List.getElem?_toArray, List.getElem?_cons_succ, List.getElem?_cons_zero]; rfl
          go_simp
          replace TX := Lib.hid ((((TX.out.set ⟨V0.heap.size, 0, none⟩ (.int .u8 (k : Int)) (by simp)).set ⟨V0.heap.size, 1, none⟩ (.int .i64 at_) (by simp)).set ⟨V0.heap.size, 2, none⟩ (.int .i64 many) (by simp)).set ⟨V0.heap.size, 3, none⟩ (.slice a1 dn c1') (by simp))
          replace TY := Lib.hid ((((TY.out.set ⟨V0.heap.size, 0, none⟩ (.int .u8 (k : Int)) (by simp)).set ⟨V0.heap.size, 1, none⟩ (.int .i64 at_) (by simp)).set ⟨V0.heap.size, 2, none⟩ (.int .i64 many) (by simp)).set ⟨V0.heap.size, 3, none⟩ (.slice a1 dn c1') (by simp))
          replace BQ4 : Hid (Bx ((((v5.setCell ⟨V0.heap.size, 0, none⟩ (.int .u8 (k : Int))).setCell ⟨V0.heap.size, 1, none⟩ (.int .i64 at_)).setCell ⟨V0.heap.size, 2, none⟩ (.int .i64 many)).setCell ⟨V0.heap.size, 3, none⟩ (.slice a1 dn c1')) V0.heap.size [.int .u8 (k : Int), .int .i64 at_, .int .i64 many, .slice a1 dn c1']) := ((((BQ4.out.set 0 (.int .u8 (k : Int))).set 1 (.int .i64 at_)).set 2 (.int .i64 many)).set 3 (.slice a1 dn c1'))
          replace BQ5 := Lib.hid ((((BQ5.out.other ⟨V0.heap.size, 0, none⟩ (by show V0.heap.size ≠ u3.heap.size; have := NE.out; omega) (.int .u8 (k : Int))).other ⟨V0.heap.size, 1, none⟩ (by show V0.heap.size ≠ u3.heap.size; have := NE.out; omega) (.int .i64 at_)).other ⟨V0.heap.size, 2, none⟩ (by show V0.heap.size ≠ u3.heap.size; have := NE.out; omega) (.int .i64 many)).other ⟨V0.heap.size, 3, none⟩ (by show V0.heap.size ≠ u3.heap.size; have := NE.out; omega) (.slice a1 dn c1'))
          have Hs6 := Lib.hid ((((hHeld.setCell (p := ⟨V0.heap.size, 0, none⟩) GE4.out (.int .u8 (k : Int))).setCell (p := ⟨V0.heap.size, 1, none⟩) GE4.out (.int .i64 at_)).setCell (p := ⟨V0.heap.size, 2, none⟩) GE4.out (.int .i64 many)).setCell (p := ⟨V0.heap.size, 3, none⟩) GE4.out (.slice a1 dn c1'))
          clear hHeld q0 q1 q2 q3 fq0 fq1 fq2 fq3 ltq
          generalize ((((v5.setCell ⟨V0.heap.size, 0, none⟩ (.int .u8 (k : Int))).setCell ⟨V0.heap.size, 1, none⟩ (.int .i64 at_)).setCell ⟨V0.heap.size, 2, none⟩ (.int .i64 many)).setCell ⟨V0.heap.size, 3, none⟩ (.slice a1 dn c1')) = s6 at *
          obtain ⟨q0, q1, q2, q3⟩ := BQ5.out.four
          have fq0 := BQ5.out.frozen 0
          have fq1 := BQ5.out.frozen 1
          have fq2 := BQ5.out.frozen 2
          have fq3 := BQ5.out.frozen 3
          have ltq := BQ5.out.lt
          refine hKq.out _ _ (Hs6.out) (fun hHeld => ?_)
          clear hKq Kq
          (try simp only [Act.put, List.setIfInBounds_toArray, List.set_cons_zero, List.set_cons_succ])
          refine PX.wpAnyY_one (i := 7) (o := ?_) (by kernel_rfl) ?_ (fun Kq hKq => ?_)
          rotate_left
          · simp only [List.getElem?_toArray, List.getElem?_cons_succ, List.getElem?_cons_zero]; rfl
          go_simp
          replace TX := Lib.hid ((((TX.out.set ⟨u3.heap.size, 0, none⟩ (.int .u8 (k' : Int)) (by simp)).set ⟨u3.heap.size, 1, none⟩ (.int .i64 at_') (by simp)).set ⟨u3.heap.size, 2, none⟩ (.int .i64 many') (by simp)).set ⟨u3.heap.size, 3, none⟩ (.slice a3 dn' c3') (by simp))
          replace TY := Lib.hid ((((TY.out.set ⟨u3.heap.size, 0, none⟩ (.int .u8 (k' : Int)) (by simp)).set ⟨u3.heap.size, 1, none⟩ (.int .i64 at_') (by simp)).set ⟨u3.heap.size, 2, none⟩ (.int .i64 many') (by simp)).set ⟨u3.heap.size, 3, none⟩ (.slice a3 dn' c3') (by simp))
          replace BQ5 : Hid (Bx ((((s6.setCell ⟨u3.heap.size, 0, none⟩ (.int .u8 (k' : Int))).setCell ⟨u3.heap.size, 1, none⟩ (.int .i64 at_')).setCell ⟨u3.heap.size, 2, none⟩ (.int .i64 many')).setCell ⟨u3.heap.size, 3, none⟩ (.slice a3 dn' c3')) u3.heap.size [.int .u8 (k' : Int), .int .i64 at_', .int .i64 many', .slice a3 dn' c3']) := ((((BQ5.out.set 0 (.int .u8 (k' : Int))).set 1 (.int .i64 at_')).set 2 (.int .i64 many')).set 3 (.slice a3 dn' c3'))
          replace BQ4 := Lib.hid ((((BQ4.out.other ⟨u3.heap.size, 0, none⟩ (by show u3.heap.size ≠ V0.heap.size; have := NE.out; omega) (.int .u8 (k' : Int))).other ⟨u3.heap.size, 1, none⟩ (by show u3.heap.size ≠ V0.heap.size; have := NE.out; omega) (.int .i64 at_')).other ⟨u3.heap.size, 2, none⟩ (by show u3.heap.size ≠ V0.heap.size; have := NE.out; omega) (.int .i64 many')).other ⟨u3.heap.size, 3, none⟩ (by show u3.heap.size ≠ V0.heap.size; have := NE.out; omega) (.slice a3 dn' c3'))
          have Hs7 := Lib.hid ((((hHeld.setCell (p := ⟨u3.heap.size, 0, none⟩) GE5.out (.int .u8 (k' : Int))).setCell (p := ⟨u3.heap.size, 1, none⟩) GE5.out (.int .i64 at_')).setCell (p := ⟨u3.heap.size, 2, none⟩) GE5.out (.int .i64 many')).setCell (p := ⟨u3.heap.size, 3, none⟩) GE5.out (.slice a3 dn' c3'))
          clear hHeld q0 q1 q2 q3 fq0 fq1 fq2 fq3 ltq
          generalize ((((s6.setCell ⟨u3.heap.size, 0, none⟩ (.int .u8 (k' : Int))).setCell ⟨u3.heap.size, 1, none⟩ (.int .i64 at_')).setCell ⟨u3.heap.size, 2, none⟩ (.int .i64 many')).setCell ⟨u3.heap.size, 3, none⟩ (.slice a3 dn' c3')) = s7 at *
          refine hKq.out _ _ (Hs7.out) (fun hHeld => ?_)
          clear hKq Kq
          (try simp only [Act.put, List.setIfInBounds_toArray, List.set_cons_zero, List.set_cons_succ])
          refine PX.wpAnyY_done (by kernel_rfl) ?_ _
          refine NoPanic.normal ?_
          clear hHeld
          go_wp2_with fail
          go_meet
          exact ⟨V0.heap.size, u3.heap.size, a1, c1', a3, c3', rfl, rfl, BQ4.out, BQ5.out, TX.out.rd, TY.out.rd, Hs7.out⟩
        · go_simp
          have al : Below u1.heap.size u1 (u1.alloc (.cells #[.int .u8 0, .int .i64 0, .int .i64 0, .slice none 0 0] 32)) := (Below.refl _ _).alloc (Nat.le_refl _) _
          replace TX := Lib.hid (TX.out.alloc (.cells #[.int .u8 0, .int .i64 0, .int .i64 0, .slice none 0 0] 32))
          have ne4 : V0.heap.size ≠ u1.heap.size := Nat.ne_of_lt BQ4.out.lt
          have NE := Lib.hid ne4
          clear ne4
          replace BQ4 := Lib.hid (BQ4.out.here al)
          have BQ5 : Hid (Bx (u1.alloc (.cells #[.int .u8 0, .int .i64 0, .int .i64 0, .slice none 0 0] 32)) u1.heap.size [.int .u8 0, .int .i64 0, .int .i64 0, .slice none 0 0]) := Bx.new u1 [.int .u8 0, .int .i64 0, .int .i64 0, .slice none 0 0] 32
          have GE5 : Hid (W0.heap.size ≤ u1.heap.size) := hHeld.size
          have Hv5 : Hid (Below W0.heap.size W0 (u1.alloc (.cells #[.int .u8 0, .int .i64 0, .int .i64 0, .slice none 0 0] 32))) := hHeld.alloc hHeld.size _
          clear al hHeld
          generalize u1.alloc (.cells #[.int .u8 0, .int .i64 0, .int .i64 0, .slice none 0 0] 32) = v5 at *
          refine hKq.out _ _ (Hv5.out) (fun hHeld => ?_)
          clear hKq Kq
          (try simp only [Act.put, List.setIfInBounds_toArray, List.set_cons_zero, List.set_cons_succ])
          refine PX.wpAnyY_one (i := 3) (o := ?_) (by kernel_rfl) ?_ (fun Kq hKq => ?_)
          rotate_left
          · simp only [List.getElem?_toArray, List.getElem?_cons_succ, List.getElem?_cons_zero]; rfl
          go_simp
          (with_reducible refine (CT3.out _ ((HR'.out.below hHeld).mono hHeld.size)).mono ?_)
          rintro e u3 ⟨a3, c3', rfl, rt, bq⟩
          have lt4 := BQ4.out.lt
          have lt5 := BQ5.out.lt
          have TY := Lib.hid (Tw.new rt [u1.heap.size, V0.heap.size] (by intro g hg; simp only [List.mem_cons, List.not_mem_nil, or_false] at hg; omega))
          replace TX := Lib.hid (TX.out.below bq)
          replace BQ4 := Lib.hid (BQ4.out.here bq)
          replace BQ5 := Lib.hid (BQ5.out.here bq)
          have Hu3 := Lib.hid (thence hHeld bq (Nat.le_refl _))
          clear rt bq lt4 lt5
          obtain ⟨q0, q1, q2, q3⟩ := BQ4.out.four
          have fq0 := BQ4.out.frozen 0
          have fq1 := BQ4.out.frozen 1
          have fq2 := BQ4.out.frozen 2
          have fq3 := BQ4.out.frozen 3
          have ltq := BQ4.out.lt
          go_wp2_with fail
          refine hKq.out _ _ (Hu3.out) (fun hHeld => ?_)
          clear hKq Kq
          (try simp only [Act.put, List.setIfInBounds_toArray, List.set_cons_zero, List.set_cons_succ])
          refine PX.wpAnyY_one (i := 6) (o := ?_) (by kernel_rfl) ?_ (fun Kq hKq => ?_)
          rotate_left
          · simp only [List.getElem?_toArray, List.getElem?_cons_succ, List.getElem?_cons_zero]; rfl
          go_simp
          replace TX := Lib.hid ((((TX.out.set ⟨V0.heap.size, 0, none⟩ (.int .u8 (k : Int)) (by simp)).set ⟨V0.heap.size, 1, none⟩ (.int .i64 at_) (by simp)).set ⟨V0.heap.size, 2, none⟩ (.int .i64 many) (by simp)).set ⟨V0.heap.size, 3, none⟩ (.slice a1 dn c1') (by simp))
          replace TY := Lib.hid ((((TY.out.set ⟨V0.heap.size, 0, none⟩ (.int .u8 (k : Int)) (by simp)).set ⟨V0.heap.size, 1, none⟩ (.int .i64 at_) (by simp)).set ⟨V0.heap.size, 2, none⟩ (.int .i64 many) (by simp)).set ⟨V0.heap.size, 3, none⟩ (.slice a1 dn c1') (by simp))
          replace BQ4 : Hid (Bx ((((u3.setCell ⟨V0.heap.size, 0, none⟩ (.int .u8 (k : Int))).setCell ⟨V0.heap.size, 1, none⟩ (.int .i64 at_)).setCell ⟨V0.heap.size, 2, none⟩ (.int .i64 many)).setCell ⟨V0.heap.size, 3, none⟩ (.slice a1 dn c1')) V0.heap.size [.int .u8 (k : Int), .int .i64 at_, .int .i64 many, .slice a1 dn c1']) := ((((BQ4.out.set 0 (.int .u8 (k : Int))).set 1 (.int .i64 at_)).set 2 (.int .i64 many)).set 3 (.slice a1 dn c1'))
          replace BQ5 := Lib.hid ((((BQ5.out.other ⟨V0.heap.size, 0, none⟩ (by show V0.heap.size ≠ u1.heap.size; have := NE.out; omega) (.int .u8 (k : Int))).other ⟨V0.heap.size, 1, none⟩ (by show V0.heap.size ≠ u1.heap.size; have := NE.out; omega) (.int .i64 at_)).other ⟨V0.heap.size, 2, none⟩ (by show V0.heap.size ≠ u1.heap.size; have := NE.out; omega) (.int .i64 many)).other ⟨V0.heap.size, 3, none⟩ (by show V0.heap.size ≠ u1.heap.size; have := NE.out; omega) (.slice a1 dn c1'))
          have Hs6 := Lib.hid ((((hHeld.setCell (p := ⟨V0.heap.size, 0, none⟩) GE4.out (.int .u8 (k : Int))).setCell (p := ⟨V0.heap.size, 1, none⟩) GE4.out (.int .i64 at_)).setCell (p := ⟨V0.heap.size, 2, none⟩) GE4.out (.int .i64 many)).setCell (p := ⟨V0.heap.size, 3, none⟩) GE4.out (.slice a1 dn c1'))
          clear hHeld q0 q1 q2 q3 fq0 fq1 fq2 fq3 ltq
          generalize ((((u3.setCell ⟨V0.heap.size, 0, none⟩ (.int .u8 (k : Int))).setCell ⟨V0.heap.size, 1, none⟩ (.int .i64 at_)).setCell ⟨V0.heap.size, 2, none⟩ (.int .i64 many)).setCell ⟨V0.heap.size, 3, none⟩ (.slice a1 dn c1')) = s6 at *
          obtain ⟨q0, q1, q2, q3⟩ := BQ5.out.four
          have fq0 := BQ5.out.frozen 0
          have fq1 := BQ5.out.frozen 1
          have fq2 := BQ5.out.frozen 2
          have fq3 := BQ5.out.frozen 3
          have ltq := BQ5.out.lt
          refine hKq.out _ _ (Hs6.out) (fun hHeld => ?_)
          clear hKq Kq
          (try simp only [Act.put, List.setIfInBounds_toArray, List.set_cons_zero, List.set_cons_succ])
          refine PX.wpAnyY_one (i := 7) (o := ?_) (by kernel_rfl) ?_ (fun Kq hKq => ?_)
          rotate_left
          · simp only [List.getElem?_toArray, List.getElem?_cons_succ, List.getElem?_cons_zero]; rfl
          go_simp
          replace TX := Lib.hid ((((TX.out.set ⟨u1.heap.size, 0, none⟩ (.int .u8 (k' : Int)) (by simp)).set ⟨u1.heap.size, 1, none⟩ (.int .i64 at_') (by simp)).set ⟨u1.heap.size, 2, none⟩ (.int .i64 many') (by simp)).set ⟨u1.heap.size, 3, none⟩ (.slice a3 dn' c3') (by simp))
          replace TY := Lib.hid ((((TY.out.set ⟨u1.heap.size, 0, none⟩ (.int .u8 (k' : Int)) (by simp)).set ⟨u1.heap.size, 1, none⟩ (.int .i64 at_') (by simp)).set ⟨u1.heap.size, 2, none⟩ (.int .i64 many') (by simp)).set ⟨u1.heap.size, 3, none⟩ (.slice a3 dn' c3') (by simp))
          replace BQ5 : Hid (Bx ((((s6.setCell ⟨u1.heap.size, 0, none⟩ (.int .u8 (k' : Int))).setCell ⟨u1.heap.size, 1, none⟩ (.int .i64 at_')).setCell ⟨u1.heap.size, 2, none⟩ (.int .i64 many')).setCell ⟨u1.heap.size, 3, none⟩ (.slice a3 dn' c3')) u1.heap.size [.int .u8 (k' : Int), .int .i64 at_', .int .i64 many', .slice a3 dn' c3']) := ((((BQ5.out.set 0 (.int .u8 (k' : Int))).set 1 (.int .i64 at_')).set 2 (.int .i64 many')).set 3 (.slice a3 dn' c3'))
          replace BQ4 := Lib.hid ((((BQ4.out.other ⟨u1.heap.size, 0, none⟩ (by show u1.heap.size ≠ V0.heap.size; have := NE.out; omega) (.int .u8 (k' : Int))).other ⟨u1.heap.size, 1, none⟩ (by show u1.heap.size ≠ V0.heap.size; have := NE.out; omega) (.int .i64 at_')).other ⟨u1.heap.size, 2, none⟩ (by show u1.heap.size ≠ V0.heap.size; have := NE.out; omega) (.int .i64 many')).other ⟨u1.heap.size, 3, none⟩ (by show u1.heap.size ≠ V0.heap.size; have := NE.out; omega) (.slice a3 dn' c3'))
          have Hs7 := Lib.hid ((((hHeld.setCell (p := ⟨u1.heap.size, 0, none⟩) GE5.out (.int .u8 (k' : Int))).setCell (p := ⟨u1.heap.size, 1, none⟩) GE5.out (.int .i64 at_')).setCell (p := ⟨u1.heap.size, 2, none⟩) GE5.out (.int .i64 many')).setCell (p := ⟨u1.heap.size, 3, none⟩) GE5.out (.slice a3 dn' c3'))
          clear hHeld q0 q1 q2 q3 fq0 fq1 fq2 fq3 ltq
          generalize ((((s6.setCell ⟨u1.heap.size, 0, none⟩ (.int .u8 (k' : Int))).setCell ⟨u1.heap.size, 1, none⟩ (.int .i64 at_')).setCell ⟨u1.heap.size, 2, none⟩ (.int .i64 many')).setCell ⟨u1.heap.size, 3, none⟩ (.slice a3 dn' c3')) = s7 at *
          refine hKq.out _ _ (Hs7.out) (fun hHeld => ?_)
          clear hKq Kq
          (try simp only [Act.put, List.setIfInBounds_toArray, List.set_cons_zero, List.set_cons_succ])
          refine PX.wpAnyY_done (by kernel_rfl) ?_ _
          refine NoPanic.normal ?_
          clear hHeld
          go_wp2_with fail
          go_meet
          exact ⟨V0.heap.size, u1.heap.size, a1, c1', a3, c3', rfl, rfl, BQ4.out, BQ5.out, TX.out.rd, TY.out.rd, Hs7.out⟩
      · go_simp
        have al : Below v4.heap.size v4 (v4.alloc (.cells #[.int .u8 0, .int .i64 0, .int .i64 0, .slice none 0 0] 32)) := (Below.refl _ _).alloc (Nat.le_refl _) _
        have ne4 : V0.heap.size ≠ v4.heap.size := Nat.ne_of_lt BQ4.out.lt
        have NE := Lib.hid ne4
        clear ne4
        replace BQ4 := Lib.hid (BQ4.out.here al)
        have BQ5 : Hid (Bx (v4.alloc (.cells #[.int .u8 0, .int .i64 0, .int .i64 0, .slice none 0 0] 32)) v4.heap.size [.int .u8 0, .int .i64 0, .int .i64 0, .slice none 0 0]) := Bx.new v4 [.int .u8 0, .int .i64 0, .int .i64 0, .slice none 0 0] 32
        have GE5 : Hid (W0.heap.size ≤ v4.heap.size) := hHeld.size
        have Hv5 : Hid (Below W0.heap.size W0 (v4.alloc (.cells #[.int .u8 0, .int .i64 0, .int .i64 0, .slice none 0 0] 32))) := hHeld.alloc hHeld.size _
        clear al hHeld
        generalize v4.alloc (.cells #[.int .u8 0, .int .i64 0, .int .i64 0, .slice none 0 0] 32) = v5 at *
        refine hKq.out _ _ (Hv5.out) (fun hHeld => ?_)
        clear hKq Kq
        (try simp only [Act.put, List.setIfInBounds_toArray, List.set_cons_zero, List.set_cons_succ])
        refine PX.wpAnyY_one (i := 1) (o := ?_) (by kernel_rfl) ?_ (fun Kq hKq => ?_)
        rotate_left
        · simp only [List.getElem?_toArray, List.getElem?_cons_succ, List.getElem?_cons_zero]; rfl
        go_simp
        (with_reducible refine (CT1.out _ ((HR.out.below hHeld).mono hHeld.size)).mono ?_)
        rintro e u1 ⟨a1, c1', rfl, rt, bq⟩
        have lt4 := BQ4.out.lt
        have lt5 := BQ5.out.lt
        have TX := Lib.hid (Tw.new rt [v4.heap.size, V0.heap.size] (by intro g hg; simp only [List.mem_cons, List.not_mem_nil, or_false] at hg; omega))
        replace BQ4 := Lib.hid (BQ4.out.here bq)
        replace BQ5 := Lib.hid (BQ5.out.here bq)
        have Hu1 := Lib.hid (thence hHeld bq (Nat.le_refl _))
        clear rt bq lt4 lt5
        go_wp2_with fail
        refine hKq.out _ _ (Hu1.out) (fun hHeld => ?_)
        clear hKq Kq
        (try simp only [Act.put, List.setIfInBounds_toArray, List.set_cons_zero, List.set_cons_succ])
        refine PX.wpAnyY_one (i := 3) (o := ?_) (by kernel_rfl) ?_ (fun Kq hKq => ?_)
        rotate_left
        · simp only [List.getElem?_toArray, List.getElem?_cons_succ, List.getElem?_cons_zero]; rfl
        go_simp
        (with_reducible refine (CT3.out _ ((HR'.out.below hHeld).mono hHeld.size)).mono ?_)
        rintro e u3 ⟨a3, c3', rfl, rt, bq⟩
        have lt4 := BQ4.out.lt
        have lt5 := BQ5.out.lt
        have TY := Lib.hid (Tw.new rt [v4.heap.size, V0.heap.size] (by intro g hg; simp only [List.mem_cons, List.not_mem_nil, or_false] at hg; omega))
        replace TX := Lib.hid (TX.out.below bq)
        replace BQ4 := Lib.hid (BQ4.out.here bq)
        replace BQ5 := Lib.hid (BQ5.out.here bq)
        have Hu3 := Lib.hid (thence hHeld bq (Nat.le_refl _))
        clear rt bq lt4 lt5
        obtain ⟨q0, q1, q2, q3⟩ := BQ4.out.four
        have fq0 := BQ4.out.frozen 0
        have fq1 := BQ4.out.frozen 1
        have fq2 := BQ4.out.frozen 2
        have fq3 := BQ4.out.frozen 3
        have ltq := BQ4.out.lt
        go_wp2_with fail
        refine hKq.out _ _ (Hu3.out) (fun hHeld => ?_)
        clear hKq Kq
        (try simp only [Act.put, List.setIfInBounds_toArray, List.set_cons_zero, List.set_cons_succ])
        refine PX.wpAnyY_one (i := 6) (o := ?_) (by kernel_rfl) ?_ (fun Kq hKq => ?_)
        rotate_left
        · simp only [List.getElem?_toArray, List.getElem?_cons_succ, List.getElem?_cons_zero]; rfl
        go_simp
        replace TX := Lib.hid ((((TX.out.set ⟨V0.heap.size, 0, none⟩ (.int .u8 (k : Int)) (by simp)).set ⟨V0.heap.size, 1, none⟩ (.int .i64 at_) (by simp)).set ⟨V0.heap.size, 2, none⟩ (.int .i64 many) (by simp)).set ⟨V0.heap.size, 3, none⟩ (.slice a1 dn c1') (by simp))
        replace TY := Lib.hid ((((TY.out.set ⟨V0.heap.size, 0, none⟩ (.int .u8 (k : Int)) (by simp)).set ⟨V0.heap.size, 1, none⟩ (.int .i64 at_) (by simp)).set ⟨V0.heap.size, 2, none⟩ (.int .i64 many) (by simp)).set ⟨V0.heap.size, 3, none⟩ (.slice a1 dn c1') (by simp))
        replace BQ4 : Hid (Bx ((((u3.setCell ⟨V0.heap.size, 0, none⟩ (.int .u8 (k : Int))).setCell ⟨V0.heap.size, 1, none⟩ (.int .i64 at_)).setCell ⟨V0.heap.size, 2, none⟩ (.int .i64 many)).setCell ⟨V0.heap.size, 3, none⟩ (.slice a1 dn c1')) V0.heap.size [.int .u8 (k : Int), .int .i64 at_, .int .i64 many, .slice a1 dn c1']) := ((((BQ4.out.set 0 (.int .u8 (k : Int))).set 1 (.int .i64 at_)).set 2 (.int .i64 many)).set 3 (.slice a1 dn c1'))
        replace BQ5 := Lib.hid ((((BQ5.out.other ⟨V0.heap.size, 0, none⟩ (by show V0.heap.size ≠ v4.heap.size; have := NE.out; omega) (.int .u8 (k : Int))).other ⟨V0.heap.size, 1, none⟩ (by show V0.heap.size ≠ v4.heap.size; have := NE.out; omega) (.int .i64 at_)).other ⟨V0.heap.size, 2, none⟩ (by show V0.heap.size ≠ v4.heap.size; have := NE.out; omega) (.int .i64 many)).other ⟨V0.heap.size, 3, none⟩ (by show V0.heap.size ≠ v4.heap.size; have := NE.out; omega) (.slice a1 dn c1'))
        have Hs6 := Lib.hid ((((hHeld.setCell (p := ⟨V0.heap.size, 0, none⟩) GE4.out (.int .u8 (k : Int))).setCell (p := ⟨V0.heap.size, 1, none⟩) GE4.out (.int .i64 at_)).setCell (p := ⟨V0.heap.size, 2, none⟩) GE4.out (.int .i64 many)).setCell (p := ⟨V0.heap.size, 3, none⟩) GE4.out (.slice a1 dn c1'))
        clear hHeld q0 q1 q2 q3 fq0 fq1 fq2 fq3 ltq
        generalize ((((u3.setCell ⟨V0.heap.size, 0, none⟩ (.int .u8 (k : Int))).setCell ⟨V0.heap.size, 1, none⟩ (.int .i64 at_)).setCell ⟨V0.heap.size, 2, none⟩ (.int .i64 many)).setCell ⟨V0.heap.size, 3, none⟩ (.slice a1 dn c1')) = s6 at *
        obtain ⟨q0, q1, q2, q3⟩ := BQ5.out.four
        have fq0 := BQ5.out.frozen 0
        have fq1 := BQ5.out.frozen 1
        have fq2 := BQ5.out.frozen 2
        have fq3 := BQ5.out.frozen 3
        have ltq := BQ5.out.lt
        refine hKq.out _ _ (Hs6.out) (fun hHeld => ?_)
        clear hKq Kq
        (try simp only [Act.put, List.setIfInBounds_toArray, List.set_cons_zero, List.set_cons_succ])
        refine PX.wpAnyY_one (i := 7) (o := ?_) (by kernel_rfl) ?_ (fun Kq hKq => ?_)
        rotate_left
        · simp only [List.getElem?_toArray, List.getElem?_cons_succ, List.getElem?_cons_zero]; rfl
        go_simp
        replace TX := Lib.hid ((((TX.out.set ⟨v4.heap.size, 0, none⟩ (.int .u8 (k' : Int)) (by simp)).set ⟨v4.heap.size, 1, none⟩ (.int .i64 at_') (by simp)).set ⟨v4.heap.size, 2, none⟩ (.int .i64 many') (by simp)).set ⟨v4.heap.size, 3, none⟩ (.slice a3 dn' c3') (by simp))
        replace TY := Lib.hid ((((TY.out.set ⟨v4.heap.size, 0, none⟩ (.int .u8 (k' : Int)) (by simp)).set ⟨v4.heap.size, 1, none⟩ (.int .i64 at_') (by simp)).set ⟨v4.heap.size, 2, none⟩ (.int .i64 many') (by simp)).set ⟨v4.heap.size, 3, none⟩ (.slice a3 dn' c3') (by simp))
        replace BQ5 : Hid (Bx ((((s6.setCell ⟨v4.heap.size, 0, none⟩ (.int .u8 (k' : Int))).setCell ⟨v4.heap.size, 1, none⟩ (.int .i64 at_')).setCell ⟨v4.heap.size, 2, none⟩ (.int .i64 many')).setCell ⟨v4.heap.size, 3, none⟩ (.slice a3 dn' c3')) v4.heap.size [.int .u8 (k' : Int), .int .i64 at_', .int .i64 many', .slice a3 dn' c3']) := ((((BQ5.out.set 0 (.int .u8 (k' : Int))).set 1 (.int .i64 at_')).set 2 (.int .i64 many')).set 3 (.slice a3 dn' c3'))
        replace BQ4 := Lib.hid ((((BQ4.out.other ⟨v4.heap.size, 0, none⟩ (by show v4.heap.size ≠ V0.heap.size; have := NE.out; omega) (.int .u8 (k' : Int))).other ⟨v4.heap.size, 1, none⟩ (by show v4.heap.size ≠ V0.heap.size; have := NE.out; omega) (.int .i64 at_')).other ⟨v4.heap.size, 2, none⟩ (by show v4.heap.size ≠ V0.heap.size; have := NE.out; omega) (.int .i64 many')).other ⟨v4.heap.size, 3, none⟩ (by show v4.heap.size ≠ V0.heap.size; have := NE.out; omega) (.slice a3 dn' c3'))
        have Hs7 := Lib.hid ((((hHeld.setCell (p := ⟨v4.heap.size, 0, none⟩) GE5.out (.int .u8 (k' : Int))).setCell (p := ⟨v4.heap.size, 1, none⟩) GE5.out (.int .i64 at_')).setCell (p := ⟨v4.heap.size, 2, none⟩) GE5.out (.int .i64 many')).setCell (p := ⟨v4.heap.size, 3, none⟩) GE5.out (.slice a3 dn' c3'))
        clear hHeld q0 q1 q2 q3 fq0 fq1 fq2 fq3 ltq
        generalize ((((s6.setCell ⟨v4.heap.size, 0, none⟩ (.int .u8 (k' : Int))).setCell ⟨v4.heap.size, 1, none⟩ (.int .i64 at_')).setCell ⟨v4.heap.size, 2, none⟩ (.int .i64 many')).setCell ⟨v4.heap.size, 3, none⟩ (.slice a3 dn' c3')) = s7 at *
        refine hKq.out _ _ (Hs7.out) (fun hHeld => ?_)
        clear hKq Kq
        (try simp only [Act.put, List.setIfInBounds_toArray, List.set_cons_zero, List.set_cons_succ])
        refine PX.wpAnyY_done (by kernel_rfl) ?_ _
        refine NoPanic.normal ?_
        clear hHeld
        go_wp2_with fail
        go_meet
        exact ⟨V0.heap.size, v4.heap.size, a1, c1', a3, c3', rfl, rfl, BQ4.out, BQ5.out, TX.out.rd, TY.out.rd, Hs7.out⟩
    · go_simp
      have al : Below V0.heap.size V0 (V0.alloc (.cells #[.int .u8 0, .int .i64 0, .int .i64 0, .slice none 0 0] 32)) := (Below.refl _ _).alloc (Nat.le_refl _) _
      have BQ5 : Hid (Bx (V0.alloc (.cells #[.int .u8 0, .int .i64 0, .int .i64 0, .slice none 0 0] 32)) V0.heap.size [.int .u8 0, .int .i64 0, .int .i64 0, .slice none 0 0]) := Bx.new V0 [.int .u8 0, .int .i64 0, .int .i64 0, .slice none 0 0] 32
      have GE5 : Hid (W0.heap.size ≤ V0.heap.size) := hHeld.size
      have Hv5 : Hid (Below W0.heap.size W0 (V0.alloc (.cells #[.int .u8 0, .int .i64 0, .int .i64 0, .slice none 0 0] 32))) := hHeld.alloc hHeld.size _
      clear al hHeld
      generalize V0.alloc (.cells #[.int .u8 0, .int .i64 0, .int .i64 0, .slice none 0 0] 32) = v5 at *
      refine hKq.out _ _ (Hv5.out) (fun hHeld => ?_)
      clear hKq Kq
      (try simp only [Act.put, List.setIfInBounds_toArray, List.set_cons_zero, List.set_cons_succ])
      refine PX.wpAnyY_two (i := 1) (j := 4) (o := ?_) (o' := ?_) (by kernel_rfl) ?_ ?_ (fun Kq hKq => ?_) (fun Kq hKq => ?_)
      rotate_left 2
      · simp only [List.getElem?_toArray, List.getElem?_cons_succ, List.getElem?_cons_zero]; rfl
      · simp only [List.getElem?_toArray, List.getElem?_cons_succ, List.getElem?_cons_zero]; rfl
      · go_simp
        (with_reducible refine (CT1.out _ ((HR.out.below hHeld).mono hHeld.size)).mono ?_)
        rintro e u1 ⟨a1, c1', rfl, rt, bq⟩
        have lt5 := BQ5.out.lt
        have TX := Lib.hid (Tw.new rt [V0.heap.size] (by intro g hg; simp only [List.mem_cons, List.not_mem_nil, or_false] at hg; omega))
        replace BQ5 := Lib.hid (BQ5.out.here bq)
        have Hu1 := Lib.hid (thence hHeld bq (Nat.le_refl _))
        clear rt bq lt5
        go_wp2_with fail
        refine hKq.out _ _ (Hu1.out) (fun hHeld => ?_)
        clear hKq Kq
        (try simp only [Act.put, List.setIfInBounds_toArray, List.set_cons_zero, List.set_cons_succ])
        refine PX.wpAnyY_two (i := 3) (j := 4) (o := ?_) (o' := ?_) (by kernel_rfl) ?_ ?_ (fun Kq hKq => ?_) (fun Kq hKq => ?_)
        rotate_left 2
        · simp only [List.getElem?_toArray, List.getElem?_cons_succ, List.getElem?_cons_zero]; rfl
        · simp only [List.getElem?_toArray, List.getElem?_cons_succ, List.getElem?_cons_zero]; rfl
        · go_simp
          (with_reducible refine (CT3.out _ ((HR'.out.below hHeld).mono hHeld.size)).mono ?_)
          rintro e u3 ⟨a3, c3', rfl, rt, bq⟩
          have lt5 := BQ5.out.lt
          have TY := Lib.hid (Tw.new rt [V0.heap.size] (by intro g hg; simp only [List.mem_cons, List.not_mem_nil, or_false] at hg; omega))
          replace TX := Lib.hid (TX.out.below bq)
          replace BQ5 := Lib.hid (BQ5.out.here bq)
          have Hu3 := Lib.hid (thence hHeld bq (Nat.le_refl _))
          clear rt bq lt5
          go_wp2_with fail
          refine hKq.out _ _ (Hu3.out) (fun hHeld => ?_)
          clear hKq Kq
          (try simp only [Act.put, List.setIfInBounds_toArray, List.set_cons_zero, List.set_cons_succ])
          refine PX.wpAnyY_one (i := 4) (o := ?_) (by kernel_rfl) ?_ (fun Kq hKq => ?_)
          rotate_left
          · simp only [List.getElem?_toArray, List.getElem?_cons_succ, List.getElem?_cons_zero]; rfl
          go_simp
          have al : Below u3.heap.size u3 (u3.alloc (.cells #[.int .u8 0, .int .i64 0, .int .i64 0, .slice none 0 0] 32)) := (Below.refl _ _).alloc (Nat.le_refl _) _
          replace TX := Lib.hid (TX.out.alloc (.cells #[.int .u8 0, .int .i64 0, .int .i64 0, .slice none 0 0] 32))
          replace TY := Lib.hid (TY.out.alloc (.cells #[.int .u8 0, .int .i64 0, .int .i64 0, .slice none 0 0] 32))
          have ne5 : V0.heap.size ≠ u3.heap.size := Nat.ne_of_lt BQ5.out.lt
          have NE := Lib.hid ne5
          clear ne5
          replace BQ5 := Lib.hid (BQ5.out.here al)
          have BQ4 : Hid (Bx (u3.alloc (.cells #[.int .u8 0, .int .i64 0, .int .i64 0, .slice none 0 0] 32)) u3.heap.size [.int .u8 0, .int .i64 0, .int .i64 0, .slice none 0 0]) := Bx.new u3 [.int .u8 0, .int .i64 0, .int .i64 0, .slice none 0 0] 32
          have GE4 : Hid (W0.heap.size ≤ u3.heap.size) := hHeld.size
          have Hv4 : Hid (Below W0.heap.size W0 (u3.alloc (.cells #[.int .u8 0, .int .i64 0, .int .i64 0, .slice none 0 0] 32))) := hHeld.alloc hHeld.size _
          clear al hHeld
          generalize u3.alloc (.cells #[.int .u8 0, .int .i64 0, .int .i64 0, .slice none 0 0] 32) = v4 at *
          obtain ⟨q0, q1, q2, q3⟩ := BQ4.out.four
          have fq0 := BQ4.out.frozen 0
          have fq1 := BQ4.out.frozen 1
          have fq2 := BQ4.out.frozen 2
          have fq3 := BQ4.out.frozen 3
          have ltq := BQ4.out.lt
          refine hKq.out _ _ (Hv4.out) (fun hHeld => ?_)
          clear hKq Kq
          (try simp only [Act.put, List.setIfInBounds_toArray, List.set_cons_zero, List.set_cons_succ])
          refine PX.wpAnyY_one (i := 6) (o := ?_) (by kernel_rfl) ?_ (fun Kq hKq => ?_)
          rotate_left
          · simp only [List.getElem?_toArray, List.getElem?_cons_succ, List.getElem?_cons_zero]; rfl
          go_simp
          replace TX := Lib.hid ((((TX.out.set ⟨u3.heap.size, 0, none⟩ (.int .u8 (k : Int)) (by simp)).set ⟨u3.heap.size, 1, none⟩ (.int .i64 at_) (by simp)).set ⟨u3.heap.size, 2, none⟩ (.int .i64 many) (by simp)).set ⟨u3.heap.size, 3, none⟩ (.slice a1 dn c1') (by simp))
          replace TY := Lib.hid ((((TY.out.set ⟨u3.heap.size, 0, none⟩ (.int .u8 (k : Int)) (by simp)).set ⟨u3.heap.size, 1, none⟩ (.int .i64 at_) (by simp)).set ⟨u3.heap.size, 2, none⟩ (.int .i64 many) (by simp)).set ⟨u3.heap.size, 3, none⟩ (.slice a1 dn c1') (by simp))
          replace BQ4 : Hid (Bx ((((v4.setCell ⟨u3.heap.size, 0, none⟩ (.int .u8 (k : Int))).setCell ⟨u3.heap.size, 1, none⟩ (.int .i64 at_)).setCell ⟨u3.heap.size, 2, none⟩ (.int .i64 many)).setCell ⟨u3.heap.size, 3, none⟩ (.slice a1 dn c1')) u3.heap.size [.int .u8 (k : Int), .int .i64 at_, .int .i64 many, .slice a1 dn c1']) := ((((BQ4.out.set 0 (.int .u8 (k : Int))).set 1 (.int .i64 at_)).set 2 (.int .i64 many)).set 3 (.slice a1 dn c1'))
          replace BQ5 := Lib.hid ((((BQ5.out.other ⟨u3.heap.size, 0, none⟩ (by show u3.heap.size ≠ V0.heap.size; have := NE.out; omega) (.int .u8 (k : Int))).other ⟨u3.heap.size, 1, none⟩ (by show u3.heap.size ≠ V0.heap.size; have := NE.out; omega) (.int .i64 at_)).other ⟨u3.heap.size, 2, none⟩ (by show u3.heap.size ≠ V0.heap.size; have := NE.out; omega) (.int .i64 many)).other ⟨u3.heap.size, 3, none⟩ (by show u3.heap.size ≠ V0.heap.size; have := NE.out; omega) (.slice a1 dn c1'))
          have Hs6 := Lib.hid ((((hHeld.setCell (p := ⟨u3.heap.size, 0, none⟩) GE4.out (.int .u8 (k : Int))).setCell (p := ⟨u3.heap.size, 1, none⟩) GE4.out (.int .i64 at_)).setCell (p := ⟨u3.heap.size, 2, none⟩) GE4.out (.int .i64 many)).setCell (p := ⟨u3.heap.size, 3, none⟩) GE4.out (.slice a1 dn c1'))
          clear hHeld q0 q1 q2 q3 fq0 fq1 fq2 fq3 ltq
          generalize ((((v4.setCell ⟨u3.heap.size, 0, none⟩ (.int .u8 (k : Int))).setCell ⟨u3.heap.size, 1, none⟩ (.int .i64 at_)).setCell ⟨u3.heap.size, 2, none⟩ (.int .i64 many)).setCell ⟨u3.heap.size, 3, none⟩ (.slice a1 dn c1')) = s6 at *
          obtain ⟨q0, q1, q2, q3⟩ := BQ5.out.four
          have fq0 := BQ5.out.frozen 0
          have fq1 := BQ5.out.frozen 1
          have fq2 := BQ5.out.frozen 2
          have fq3 := BQ5.out.frozen 3
          have ltq := BQ5.out.lt
          refine hKq.out _ _ (Hs6.out) (fun hHeld => ?_)
          clear hKq Kq
          (try simp only [Act.put, List.setIfInBounds_toArray, List.set_cons_zero, List.set_cons_succ])
          refine PX.wpAnyY_one (i := 7) (o := ?_) (by kernel_rfl) ?_ (fun Kq hKq => ?_)
          rotate_left
          · simp only [List.getElem?_toArray, List.getElem?_cons_succ, List.getElem?_cons_zero]; rfl
          go_simp
          replace TX := Lib.hid ((((TX.out.set ⟨V0.heap.size, 0, none⟩ (.int .u8 (k' : Int)) (by simp)).set ⟨V0.heap.size, 1, none⟩ (.int .i64 at_') (by simp)).set ⟨V0.heap.size, 2, none⟩ (.int .i64 many') (by simp)).set ⟨V0.heap.size, 3, none⟩ (.slice a3 dn' c3') (by simp))
          replace TY := Lib.hid ((((TY.out.set ⟨V0.heap.size, 0, none⟩ (.int .u8 (k' : Int)) (by simp)).set ⟨V0.heap.size, 1, none⟩ (.int .i64 at_') (by simp)).set ⟨V0.heap.size, 2, none⟩ (.int .i64 many') (by simp)).set ⟨V0.heap.size, 3, none⟩ (.slice a3 dn' c3') (by simp))
          replace BQ5 : Hid (Bx ((((s6.setCell ⟨V0.heap.size, 0, none⟩ (.int .u8 (k' : Int))).setCell ⟨V0.heap.size, 1, none⟩ (.int .i64 at_')).setCell ⟨V0.heap.size, 2, none⟩ (.int .i64 many')).setCell ⟨V0.heap.size, 3, none⟩ (.slice a3 dn' c3')) V0.heap.size [.int .u8 (k' : Int), .int .i64 at_', .int .i64 many', .slice a3 dn' c3']) := ((((BQ5.out.set 0 (.int .u8 (k' : Int))).set 1 (.int .i64 at_')).set 2 (.int .i64 many')).set 3 (.slice a3 dn' c3'))
          replace BQ4 := Lib.hid ((((BQ4.out.other ⟨V0.heap.size, 0, none⟩ (by show V0.heap.size ≠ u3.heap.size; have := NE.out; omega) (.int .u8 (k' : Int))).other ⟨V0.heap.size, 1, none⟩ (by show V0.heap.size ≠ u3.heap.size; have := NE.out; omega) (.int .i64 at_')).other ⟨V0.heap.size, 2, none⟩ (by show V0.heap.size ≠ u3.heap.size; have := NE.out; omega) (.int .i64 many')).other ⟨V0.heap.size, 3, none⟩ (by show V0.heap.size ≠ u3.heap.size; have := NE.out; omega) (.slice a3 dn' c3'))
          have Hs7 := Lib.hid ((((hHeld.setCell (p := ⟨V0.heap.size, 0, none⟩) GE5.out (.int .u8 (k' : Int))).setCell (p := ⟨V0.heap.size, 1, none⟩) GE5.out (.int .i64 at_')).setCell (p := ⟨V0.heap.size, 2, none⟩) GE5.out (.int .i64 many')).setCell (p := ⟨V0.heap.size, 3, none⟩) GE5.out (.slice a3 dn' c3'))
          clear hHeld q0 q1 q2 q3 fq0 fq1 fq2 fq3 ltq
          generalize ((((s6.setCell ⟨V0.heap.size, 0, none⟩ (.int .u8 (k' : Int))).setCell ⟨V0.heap.size, 1, none⟩ (.int .i64 at_')).setCell ⟨V0.heap.size, 2, none⟩ (.int .i64 many')).setCell ⟨V0.heap.size, 3, none⟩ (.slice a3 dn' c3')) = s7 at *
          refine hKq.out _ _ (Hs7.out) (fun hHeld => ?_)
          clear hKq Kq
          (try simp only [Act.put, List.setIfInBounds_toArray, List.set_cons_zero, List.set_cons_succ])
          refine PX.wpAnyY_done (by kernel_rfl) ?_ _
          refine NoPanic.normal ?_
          clear hHeld
          go_wp2_with fail
          go_meet
          exact ⟨u3.heap.size, V0.heap.size, a1, c1', a3, c3', rfl, rfl, BQ4.out, BQ5.out, TX.out.rd, TY.out.rd, Hs7.out⟩
        · go_simp
          have al : Below u1.heap.size u1 (u1.alloc (.cells #[.int .u8 0, .int .i64 0, .int .i64 0, .slice none 0 0] 32)) := (Below.refl _ _).alloc (Nat.le_refl _) _
          replace TX := Lib.hid (TX.out.alloc (.cells #[.int .u8 0, .int .i64 0, .int .i64 0, .slice none 0 0] 32))
          have ne5 : V0.heap.size ≠ u1.heap.size := Nat.ne_of_lt BQ5.out.lt
          have NE := Lib.hid ne5
          clear ne5
          replace BQ5 := Lib.hid (BQ5.out.here al)
          have BQ4 : Hid (Bx (u1.alloc (.cells #[.int .u8 0, .int .i64 0, .int .i64 0, .slice none 0 0] 32)) u1.heap.size [.int .u8 0, .int .i64 0, .int .i64 0, .slice none 0 0]) := Bx.new u1 [.int .u8 0, .int .i64 0, .int .i64 0, .slice none 0 0] 32
          have GE4 : Hid (W0.heap.size ≤ u1.heap.size) := hHeld.size
          have Hv4 : Hid (Below W0.heap.size W0 (u1.alloc (.cells #[.int .u8 0, .int .i64 0, .int .i64 0, .slice none 0 0] 32))) := hHeld.alloc hHeld.size _
          clear al hHeld
          generalize u1.alloc (.cells #[.int .u8 0, .int .i64 0, .int .i64 0, .slice none 0 0] 32) = v4 at *
          refine hKq.out _ _ (Hv4.out) (fun hHeld => ?_)
          clear hKq Kq
          (try simp only [Act.put, List.setIfInBounds_toArray, List.set_cons_zero, List.set_cons_succ])
          refine PX.wpAnyY_one (i := 3) (o := ?_) (by kernel_rfl) ?_ (fun Kq hKq => ?_)
          rotate_left
          · simp only [List.getElem?_toArray, List.getElem?_cons_succ, List.getElem?_cons_zero]; rfl
          go_simp
          (with_reducible refine (CT3.out _ ((HR'.out.below hHeld).mono hHeld.size)).mono ?_)
          rintro e u3 ⟨a3, c3', rfl, rt, bq⟩
          have lt4 := BQ4.out.lt
          have lt5 := BQ5.out.lt
          have TY := Lib.hid (Tw.new rt [u1.heap.size, V0.heap.size] (by intro g hg; simp only [List.mem_cons, List.not_mem_nil, or_false] at hg; omega))
          replace TX := Lib.hid (TX.out.below bq)
          replace BQ4 := Lib.hid (BQ4.out.here bq)
          replace BQ5 := Lib.hid (BQ5.out.here bq)
          have Hu3 := Lib.hid (thence hHeld bq (Nat.le_refl _))
          clear rt bq lt4 lt5
          obtain ⟨q0, q1, q2, q3⟩ := BQ4.out.four
          have fq0 := BQ4.out.frozen 0
          have fq1 := BQ4.out.frozen 1
          have fq2 := BQ4.out.frozen 2
          have fq3 := BQ4.out.frozen 3
          have ltq := BQ4.out.lt
          go_wp2_with fail
          refine hKq.out _ _ (Hu3.out) (fun hHeld => ?_)
          clear hKq Kq
          (try simp only [Act.put, List.setIfInBounds_toArray, List.set_cons_zero, List.set_cons_succ])
          refine PX.wpAnyY_one (i := 6) (o := ?_) (by kernel_rfl) ?_ (fun Kq hKq => ?_)
          rotate_left
          · simp only [List.getElem?_toArray, List.getElem?_cons_succ, List.getElem?_cons_zero]; rfl
          go_simp
          replace TX := Lib.hid ((((TX.out.set ⟨u1.heap.size, 0, none⟩ (.int .u8 (k : Int)) (by simp)).set ⟨u1.heap.size, 1, none⟩ (.int .i64 at_) (by simp)).set ⟨u1.heap.size, 2, none⟩ (.int .i64 many) (by simp)).set ⟨u1.heap.size, 3, none⟩ (.slice a1 dn c1') (by simp))
          replace TY := Lib.hid ((((TY.out.set ⟨u1.heap.size, 0, none⟩ (.int .u8 (k : Int)) (by simp)).set ⟨u1.heap.size, 1, none⟩ (.int .i64 at_) (by simp)).set ⟨u1.heap.size, 2, none⟩ (.int .i64 many) (by simp)).set ⟨u1.heap.size, 3, none⟩ (.slice a1 dn c1') (by simp))
          replace BQ4 : Hid (Bx ((((u3.setCell ⟨u1.heap.size, 0, none⟩ (.int .u8 (k : Int))).setCell ⟨u1.heap.size, 1, none⟩ (.int .i64 at_)).setCell ⟨u1.heap.size, 2, none⟩ (.int .i64 many)).setCell ⟨u1.heap.size, 3, none⟩ (.slice a1 dn c1')) u1.heap.size [.int .u8 (k : Int), .int .i64 at_, .int .i64 many, .slice a1 dn c1']) := ((((BQ4.out.set 0 (.int .u8 (k : Int))).set 1 (.int .i64 at_)).set 2 (.int .i64 many)).set 3 (.slice a1 dn c1'))
          replace BQ5 := Lib.hid ((((BQ5.out.other ⟨u1.heap.size, 0, none⟩ (by show u1.heap.size ≠ V0.heap.size; have := NE.out; omega) (.int .u8 (k : Int))).other ⟨u1.heap.size, 1, none⟩ (by show u1.heap.size ≠ V0.heap.size; have := NE.out; omega) (.int .i64 at_)).other ⟨u1.heap.size, 2, none⟩ (by show u1.heap.size ≠ V0.heap.size; have := NE.out; omega) (.int .i64 many)).other ⟨u1.heap.size, 3, none⟩ (by show u1.heap.size ≠ V0.heap.size; have := NE.out; omega) (.slice a1 dn c1'))
          have Hs6 := Lib.hid ((((hHeld.setCell (p := ⟨u1.heap.size, 0, none⟩) GE4.out (.int .u8 (k : Int))).setCell (p := ⟨u1.heap.size, 1, none⟩) GE4.out (.int .i64 at_)).setCell (p := ⟨u1.heap.size, 2, none⟩) GE4.out (.int .i64 many)).setCell (p := ⟨u1.heap.size, 3, none⟩) GE4.out (.slice a1 dn c1'))
          clear hHeld q0 q1 q2 q3 fq0 fq1 fq2 fq3 ltq
          generalize ((((u3.setCell ⟨u1.heap.size, 0, none⟩ (.int .u8 (k : Int))).setCell ⟨u1.heap.size, 1, none⟩ (.int .i64 at_)).setCell ⟨u1.heap.size, 2, none⟩ (.int .i64 many)).setCell ⟨u1.heap.size, 3, none⟩ (.slice a1 dn c1')) = s6 at *
          obtain ⟨q0, q1, q2, q3⟩ := BQ5.out.four
          have fq0 := BQ5.out.frozen 0
          have fq1 := BQ5.out.frozen 1
          have fq2 := BQ5.out.frozen 2
          have fq3 := BQ5.out.frozen 3
          have ltq := BQ5.out.lt
          refine hKq.out _ _ (Hs6.out) (fun hHeld => ?_)
          clear hKq Kq
          (try simp only [Act.put, List.setIfInBounds_toArray, List.set_cons_zero, List.set_cons_succ])
          refine PX.wpAnyY_one (i := 7) (o := ?_) (by kernel_rfl) ?_ (fun Kq hKq => ?_)
          rotate_left
          · simp only [List.getElem?_toArray, List.getElem?_cons_succ, List.getElem?_cons_zero]; rfl
          go_simp
          replace TX := Lib.hid ((((TX.out.set ⟨V0.heap.size, 0, none⟩ (.int .u8 (k' : Int)) (by simp)).set ⟨V0.heap.size, 1, none⟩ (.int .i64 at_') (by simp)).set ⟨V0.heap.size, 2, none⟩ (.int .i64 many') (by simp)).set ⟨V0.heap.size, 3, none⟩ (.slice a3 dn' c3') (by simp))
          replace TY := Lib.hid ((((TY.out.set ⟨V0.heap.size, 0, none⟩ (.int .u8 (k' : Int)) (by simp)).set ⟨V0.heap.size, 1, none⟩ (.int .i64 at_') (by simp)).set ⟨V0.heap.size, 2, none⟩ (.int .i64 many') (by simp)).set ⟨V0.heap.size, 3, none⟩ (.slice a3 dn' c3') (by simp))
          replace BQ5 : Hid (Bx ((((s6.setCell ⟨V0.heap.size, 0, none⟩ (.int .u8 (k' : Int))).setCell ⟨V0.heap.size, 1, none⟩ (.int .i64 at_')).setCell ⟨V0.heap.size, 2, none⟩ (.int .i64 many')).setCell ⟨V0.heap.size, 3, none⟩ (.slice a3 dn' c3')) V0.heap.size [.int .u8 (k' : Int), .int .i64 at_', .int .i64 many', .slice a3 dn' c3']) := ((((BQ5.out.set 0 (.int .u8 (k' : Int))).set 1 (.int .i64 at_')).set 2 (.int .i64 many')).set 3 (.slice a3 dn' c3'))
          replace BQ4 := Lib.hid ((((BQ4.out.other ⟨V0.heap.size, 0, none⟩ (by show V0.heap.size ≠ u1.heap.size; have := NE.out; omega) (.int .u8 (k' : Int))).other ⟨V0.heap.size, 1, none⟩ (by show V0.heap.size ≠ u1.heap.size; have := NE.out; omega) (.int .i64 at_')).other ⟨V0.heap.size, 2, none⟩ (by show V0.heap.size ≠ u1.heap.size; have := NE.out; omega) (.int .i64 many')).other ⟨V0.heap.size, 3, none⟩ (by show V0.heap.size ≠ u1.heap.size; have := NE.out; omega) (.slice a3 dn' c3'))
          have Hs7 := Lib.hid ((((hHeld.setCell (p := ⟨V0.heap.size, 0, none⟩) GE5.out (.int .u8 (k' : Int))).setCell (p := ⟨V0.heap.size, 1, none⟩) GE5.out (.int .i64 at_')).setCell (p := ⟨V0.heap.size, 2, none⟩) GE5.out (.int .i64 many')).setCell (p := ⟨V0.heap.size, 3, none⟩) GE5.out (.slice a3 dn' c3'))
          clear hHeld q0 q1 q2 q3 fq0 fq1 fq2 fq3 ltq
          generalize ((((s6.setCell ⟨V0.heap.size, 0, none⟩ (.int .u8 (k' : Int))).setCell ⟨V0.heap.size, 1, none⟩ (.int .i64 at_')).setCell ⟨V0.heap.size, 2, none⟩ (.int .i64 many')).setCell ⟨V0.heap.size, 3, none⟩ (.slice a3 dn' c3')) = s7 at *
          refine hKq.out _ _ (Hs7.out) (fun hHeld => ?_)
          clear hKq Kq
          (try simp only [Act.put, List.setIfInBounds_toArray, List.set_cons_zero, List.set_cons_succ])
          refine PX.wpAnyY_done (by kernel_rfl) ?_ _
          refine NoPanic.normal ?_
          clear hHeld
          go_wp2_with fail
          go_meet
          exact ⟨u1.heap.size, V0.heap.size, a1, c1', a3, c3', rfl, rfl, BQ4.out, BQ5.out, TX.out.rd, TY.out.rd, Hs7.out⟩
      · go_simp
        have al : Below v5.heap.size v5 (v5.alloc (.cells #[.int .u8 0, .int .i64 0, .int .i64 0, .slice none 0 0] 32)) := (Below.refl _ _).alloc (Nat.le_refl _) _
        have ne5 : V0.heap.size ≠ v5.heap.size := Nat.ne_of_lt BQ5.out.lt
        have NE := Lib.hid ne5
        clear ne5
        replace BQ5 := Lib.hid (BQ5.out.here al)
        have BQ4 : Hid (Bx (v5.alloc (.cells #[.int .u8 0, .int .i64 0, .int .i64 0, .slice none 0 0] 32)) v5.heap.size [.int .u8 0, .int .i64 0, .int .i64 0, .slice none 0 0]) := Bx.new v5 [.int .u8 0, .int .i64 0, .int .i64 0, .slice none 0 0] 32
        have GE4 : Hid (W0.heap.size ≤ v5.heap.size) := hHeld.size
        have Hv4 : Hid (Below W0.heap.size W0 (v5.alloc (.cells #[.int .u8 0, .int .i64 0, .int .i64 0, .slice none 0 0] 32))) := hHeld.alloc hHeld.size _
        clear al hHeld
        generalize v5.alloc (.cells #[.int .u8 0, .int .i64 0, .int .i64 0, .slice none 0 0] 32) = v4 at *
        refine hKq.out _ _ (Hv4.out) (fun hHeld => ?_)
        clear hKq Kq
        (try simp only [Act.put, List.setIfInBounds_toArray, List.set_cons_zero, List.set_cons_succ])
        refine PX.wpAnyY_one (i := 1) (o := ?_) (by kernel_rfl) ?_ (fun Kq hKq => ?_)
        rotate_left
        · simp only [List.getElem?_toArray, List.getElem?_cons_succ, List.getElem?_cons_zero]; rfl
        go_simp
        (with_reducible refine (CT1.out _ ((HR.out.below hHeld).mono hHeld.size)).mono ?_)
        rintro e u1 ⟨a1, c1', rfl, rt, bq⟩
        have lt4 := BQ4.out.lt
        have lt5 := BQ5.out.lt
        have TX := Lib.hid (Tw.new rt [v5.heap.size, V0.heap.size] (by intro g hg; simp only [List.mem_cons, List.not_mem_nil, or_false] at hg; omega))
        replace BQ4 := Lib.hid (BQ4.out.here bq)
        replace BQ5 := Lib.hid (BQ5.out.here bq)
        have Hu1 := Lib.hid (thence hHeld bq (Nat.le_refl _))
        clear rt bq lt4 lt5
        go_wp2_with fail
        refine hKq.out _ _ (Hu1.out) (fun hHeld => ?_)
        clear hKq Kq
        (try simp only [Act.put, List.setIfInBounds_toArray, List.set_cons_zero, List.set_cons_succ])
        refine PX.wpAnyY_one (i := 3) (o := ?_) (by kernel_rfl) ?_ (fun Kq hKq => ?_)
        rotate_left
        · simp only [List.getElem?_toArray, List.getElem?_cons_succ, List.getElem?_cons_zero]; rfl
        go_simp
        (with_reducible refine (CT3.out _ ((HR'.out.below hHeld).mono hHeld.size)).mono ?_)
        rintro e u3 ⟨a3, c3', rfl, rt, bq⟩
        have lt4 := BQ4.out.lt
        have lt5 := BQ5.out.lt
        have TY := Lib.hid (Tw.new rt [v5.heap.size, V0.heap.size] (by intro g hg; simp only [List.mem_cons, List.not_mem_nil, or_false] at hg; omega))
        replace TX := Lib.hid (TX.out.below bq)
        replace BQ4 := Lib.hid (BQ4.out.here bq)
        replace BQ5 := Lib.hid (BQ5.out.here bq)
        have Hu3 := Lib.hid (thence hHeld bq (Nat.le_refl _))
        clear rt bq lt4 lt5
        obtain ⟨q0, q1, q2, q3⟩ := BQ4.out.four
        have fq0 := BQ4.out.frozen 0
        have fq1 := BQ4.out.frozen 1
        have fq2 := BQ4.out.frozen 2
        have fq3 := BQ4.out.frozen 3
        have ltq := BQ4.out.lt
        go_wp2_with fail
        refine hKq.out _ _ (Hu3.out) (fun hHeld => ?_)
        clear hKq Kq
        (try simp only [Act.put, List.setIfInBounds_toArray, List.set_cons_zero, List.set_cons_succ])
        refine PX.wpAnyY_one (i := 6) (o := ?_) (by kernel_rfl) ?_ (fun Kq hKq => ?_)
        rotate_left
        · simp only [List.getElem?_toArray, List.getElem?_cons_succ, List.getElem?_cons_zero]; rfl
        go_simp
        replace TX := Lib.hid ((((TX.out.set ⟨v5.heap.size, 0, none⟩ (.int .u8 (k : Int)) (by simp)).set ⟨v5.heap.size, 1, none⟩ (.int .i64 at_) (by simp)).set ⟨v5.heap.size, 2, none⟩ (.int .i64 many) (by simp)).set ⟨v5.heap.size, 3, none⟩ (.slice a1 dn c1') (by simp))
        replace TY := Lib.hid ((((TY.out.set ⟨v5.heap.size, 0, none⟩ (.int .u8 (k : Int)) (by simp)).set ⟨v5.heap.size, 1, none⟩ (.int .i64 at_) (by simp)).set ⟨v5.heap.size, 2, none⟩ (.int .i64 many) (by simp)).set ⟨v5.heap.size, 3, none⟩ (.slice a1 dn c1') (by simp))
        replace BQ4 : Hid (Bx ((((u3.setCell ⟨v5.heap.size, 0, none⟩ (.int .u8 (k : Int))).setCell ⟨v5.heap.size, 1, none⟩ (.int .i64 at_)).setCell ⟨v5.heap.size, 2, none⟩ (.int .i64 many)).setCell ⟨v5.heap.size, 3, none⟩ (.slice a1 dn c1')) v5.heap.size [.int .u8 (k : Int), .int .i64 at_, .int .i64 many, .slice a1 dn c1']) := ((((BQ4.out.set 0 (.int .u8 (k : Int))).set 1 (.int .i64 at_)).set 2 (.int .i64 many)).set 3 (.slice a1 dn c1'))
        replace BQ5 := Lib.hid ((((BQ5.out.other ⟨v5.heap.size, 0, none⟩ (by show v5.heap.size ≠ V0.heap.size; have := NE.out; omega) (.int .u8 (k : Int))).other ⟨v5.heap.size, 1, none⟩ (by show v5.heap.size ≠ V0.heap.size; have := NE.out; omega) (.int .i64 at_)).other ⟨v5.heap.size, 2, none⟩ (by show v5.heap.size ≠ V0.heap.size; have := NE.out; omega) (.int .i64 many)).other ⟨v5.heap.size, 3, none⟩ (by show v5.heap.size ≠ V0.heap.size; have := NE.out; omega) (.slice a1 dn c1'))
        have Hs6 := Lib.hid ((((hHeld.setCell (p := ⟨v5.heap.size, 0, none⟩) GE4.out (.int .u8 (k : Int))).setCell (p := ⟨v5.heap.size, 1, none⟩) GE4.out (.int .i64 at_)).setCell (p := ⟨v5.heap.size, 2, none⟩) GE4.out (.int .i64 many)).setCell (p := ⟨v5.heap.size, 3, none⟩) GE4.out (.slice a1 dn c1'))
        clear hHeld q0 q1 q2 q3 fq0 fq1 fq2 fq3 ltq
        generalize ((((u3.setCell ⟨v5.heap.size, 0, none⟩ (.int .u8 (k : Int))).setCell ⟨v5.heap.size, 1, none⟩ (.int .i64 at_)).setCell ⟨v5.heap.size, 2, none⟩ (.int .i64 many)).setCell ⟨v5.heap.size, 3, none⟩ (.slice a1 dn c1')) = s6 at *
        obtain ⟨q0, q1, q2, q3⟩ := BQ5.out.four
        have fq0 := BQ5.out.frozen 0
        have fq1 := BQ5.out.frozen 1
        have fq2 := BQ5.out.frozen 2
        have fq3 := BQ5.out.frozen 3
        have ltq := BQ5.out.lt
        refine hKq.out _ _ (Hs6.out) (fun hHeld => ?_)
        clear hKq Kq
        (try simp only [Act.put, List.setIfInBounds_toArray, List.set_cons_zero, List.set_cons_succ])
        refine PX.wpAnyY_one (i := 7) (o := ?_) (by kernel_rfl) ?_ (fun Kq hKq => ?_)
        rotate_left
        · simp only [List.getElem?_toArray, List.getElem?_cons_succ, List.getElem?_cons_zero]; rfl
        go_simp
        replace TX := Lib.hid ((((TX.out.set ⟨V0.heap.size, 0, none⟩ (.int .u8 (k' : Int)) (by simp)).set ⟨V0.heap.size, 1, none⟩ (.int .i64 at_') (by simp)).set ⟨V0.heap.size, 2, none⟩ (.int .i64 many') (by simp)).set ⟨V0.heap.size, 3, none⟩ (.slice a3 dn' c3') (by simp))
        replace TY := Lib.hid ((((TY.out.set ⟨V0.heap.size, 0, none⟩ (.int .u8 (k' : Int)) (by simp)).set ⟨V0.heap.size, 1, none⟩ (.int .i64 at_') (by simp)).set ⟨V0.heap.size, 2, none⟩ (.int .i64 many') (by simp)).set ⟨V0.heap.size, 3, none⟩ (.slice a3 dn' c3') (by simp))
        replace BQ5 : Hid (Bx ((((s6.setCell ⟨V0.heap.size, 0, none⟩ (.int .u8 (k' : Int))).setCell ⟨V0.heap.size, 1, none⟩ (.int .i64 at_')).setCell ⟨V0.heap.size, 2, none⟩ (.int .i64 many')).setCell ⟨V0.heap.size, 3, none⟩ (.slice a3 dn' c3')) V0.heap.size [.int .u8 (k' : Int), .int .i64 at_', .int .i64 many', .slice a3 dn' c3']) := ((((BQ5.out.set 0 (.int .u8 (k' : Int))).set 1 (.int .i64 at_')).set 2 (.int .i64 many')).set 3 (.slice a3 dn' c3'))
        replace BQ4 := Lib.hid ((((BQ4.out.other ⟨V0.heap.size, 0, none⟩ (by show V0.heap.size ≠ v5.heap.size; have := NE.out; omega) (.int .u8 (k' : Int))).other ⟨V0.heap.size, 1, none⟩ (by show V0.heap.size ≠ v5.heap.size; have := NE.out; omega) (.int .i64 at_')).other ⟨V0.heap.size, 2, none⟩ (by show V0.heap.size ≠ v5.heap.size; have := NE.out; omega) (.int .i64 many')).other ⟨V0.heap.size, 3, none⟩ (by show V0.heap.size ≠ v5.heap.size; have := NE.out; omega) (.slice a3 dn' c3'))
        have Hs7 := Lib.hid ((((hHeld.setCell (p := ⟨V0.heap.size, 0, none⟩) GE5.out (.int .u8 (k' : Int))).setCell (p := ⟨V0.heap.size, 1, none⟩) GE5.out (.int .i64 at_')).setCell (p := ⟨V0.heap.size, 2, none⟩) GE5.out (.int .i64 many')).setCell (p := ⟨V0.heap.size, 3, none⟩) GE5.out (.slice a3 dn' c3'))
        clear hHeld q0 q1 q2 q3 fq0 fq1 fq2 fq3 ltq
        generalize ((((s6.setCell ⟨V0.heap.size, 0, none⟩ (.int .u8 (k' : Int))).setCell ⟨V0.heap.size, 1, none⟩ (.int .i64 at_')).setCell ⟨V0.heap.size, 2, none⟩ (.int .i64 many')).setCell ⟨V0.heap.size, 3, none⟩ (.slice a3 dn' c3')) = s7 at *
        refine hKq.out _ _ (Hs7.out) (fun hHeld => ?_)
        clear hKq Kq
        (try simp only [Act.put, List.setIfInBounds_toArray, List.set_cons_zero, List.set_cons_succ])
        refine PX.wpAnyY_done (by kernel_rfl) ?_ _
        refine NoPanic.normal ?_
        clear hHeld
        go_wp2_with fail
        go_meet
        exact ⟨v5.heap.size, V0.heap.size, a1, c1', a3, c3', rfl, rfl, BQ4.out, BQ5.out, TX.out.rd, TY.out.rd, Hs7.out⟩
  case rest =>
    obtain ⟨g7, g8, a7, c7, a8, c8, rfl, rfl, B7, B8, R7, R8, HB⟩ := hcut
    clear c0 c1 c2 c3 c4 c5 y0 y1 y2 y3 z0 z1 z2 z3 ltBX ltBY ltBZ CT1 CT3
    have B10 := Lib.hid (thence B0.out HB (Nat.le_refl _))
    replace BX := Lib.hid (BX.out.here HB)
    replace BY := Lib.hid (BY.out.here HB)
    replace BZ := Lib.hid (BZ.out.here HB)
    have BP := Lib.hid B7
    have BQ := Lib.hid B8
    have RP := Lib.hid R7
    have RQ := Lib.hid R8
    replace HR := Lib.hid (HR.out.here HB)
    replace HR' := Lib.hid (HR'.out.here HB)
    have CB1 := Lib.hid (fun w1 => I.blocks id mem chunk rows log heads k at_ many a7 dn c7 w1)
    have CB2 := Lib.hid (fun w1 => ref8Blocks_any id mem chunk rows log heads k at_ many da dn dc w1)
    have CU1 := Lib.hid (fun w1 => I.touch id mem chunk rows log heads k at_ many a7 dn c7 k' at_' many' a8 dn' c8 w1)
    have CU2 := Lib.hid (fun w1 => ref8Touch_any id mem chunk rows log heads k at_ many da dn dc k' at_' many' da' dn' dc' w1)
    have CK1 := Lib.hid (fun w1 => I.check id mem chunk rows log heads k at_ many a7 dn c7 w1)
    have CK2 := Lib.hid (fun w1 => ref8Check_any id mem chunk rows log heads k at_ many da dn dc w1)
    clear B7 B8 R7 R8 HB
    generalize (if QK.code ⟨id, mem, chunk, rows, log, heads⟩ k at_ many dn = 0 then QK.blks at_ many else []) = LL at *
    generalize (if QK.tcode ⟨id, mem, chunk, rows, log, heads⟩ k at_ many dn k' at_' many' dn' = 0 then QK.meet k at_ many k' at_' many' else false) = tb at *
    generalize QK.tcode ⟨id, mem, chunk, rows, log, heads⟩ k at_ many dn k' at_' many' dn' = tq at *
    generalize QK.code ⟨id, mem, chunk, rows, log, heads⟩ k at_ many dn = q at *
    obtain ⟨c0, c1, c2, c3, c4, c5⟩ := BX.out.six
    have ltBX := BX.out.lt
    obtain ⟨y0, y1, y2, y3⟩ := BY.out.four
    have ltBY := BY.out.lt
    obtain ⟨z0, z1, z2, z3⟩ := BZ.out.four
    have ltBZ := BZ.out.lt
    obtain ⟨p0, p1, p2, p3⟩ := BP.out.four
    have ltBP := BP.out.lt
    obtain ⟨q0, q1, q2, q3⟩ := BQ.out.four
    have ltBQ := BQ.out.lt
    go_wp2_with fail
    (with_reducible refine (CB1.out _).mono ?_)
    rintro e w11 ⟨a1, n1, p1', rfl, rg1, b11⟩
    clear c0 c1 c2 c3 c4 c5 y0 y1 y2 y3 z0 z1 z2 z3 p0 p1 p2 p3 q0 q1 q2 q3 ltBX ltBY ltBZ ltBP ltBQ
    replace BX := Lib.hid (BX.out.here b11)
    replace BY := Lib.hid (BY.out.here b11)
    replace BZ := Lib.hid (BZ.out.here b11)
    replace BP := Lib.hid (BP.out.here b11)
    replace BQ := Lib.hid (BQ.out.here b11)
    have B11 := Lib.hid (thence B10.out b11 (Nat.le_refl _))
    replace RP := Lib.hid (RP.out.here b11)
    replace RQ := Lib.hid (RQ.out.here b11)
    replace HR := Lib.hid (HR.out.here b11)
    replace HR' := Lib.hid (HR'.out.here b11)
    have R1 := Lib.hid rg1
    clear b11 B10 rg1
    obtain ⟨c0, c1, c2, c3, c4, c5⟩ := BX.out.six
    have ltBX := BX.out.lt
    obtain ⟨y0, y1, y2, y3⟩ := BY.out.four
    have ltBY := BY.out.lt
    obtain ⟨z0, z1, z2, z3⟩ := BZ.out.four
    have ltBZ := BZ.out.lt
    obtain ⟨p0, p1, p2, p3⟩ := BP.out.four
    have ltBP := BP.out.lt
    obtain ⟨q0, q1, q2, q3⟩ := BQ.out.four
    have ltBQ := BQ.out.lt
    go_wp2_with fail
    (with_reducible refine (CB2.out _).mono ?_)
    rintro e w12 ⟨a2, n2, p2', rfl, rg2, b12⟩
    clear c0 c1 c2 c3 c4 c5 y0 y1 y2 y3 z0 z1 z2 z3 p0 p1 p2 p3 q0 q1 q2 q3 ltBX ltBY ltBZ ltBP ltBQ
    replace BX := Lib.hid (BX.out.here b12)
    replace BY := Lib.hid (BY.out.here b12)
    replace BZ := Lib.hid (BZ.out.here b12)
    replace BP := Lib.hid (BP.out.here b12)
    replace BQ := Lib.hid (BQ.out.here b12)
    have B12 := Lib.hid (thence B11.out b12 (Nat.le_refl _))
    replace RP := Lib.hid (RP.out.here b12)
    replace RQ := Lib.hid (RQ.out.here b12)
    replace HR := Lib.hid (HR.out.here b12)
    replace HR' := Lib.hid (HR'.out.here b12)
    replace R1 := Lib.hid (R1.out.here b12)
    have R2 := Lib.hid rg2
    clear b12 B11 rg2
    obtain ⟨c0, c1, c2, c3, c4, c5⟩ := BX.out.six
    have ltBX := BX.out.lt
    obtain ⟨y0, y1, y2, y3⟩ := BY.out.four
    have ltBY := BY.out.lt
    obtain ⟨z0, z1, z2, z3⟩ := BZ.out.four
    have ltBZ := BZ.out.lt
    obtain ⟨p0, p1, p2, p3⟩ := BP.out.four
    have ltBP := BP.out.lt
    obtain ⟨q0, q1, q2, q3⟩ := BQ.out.four
    have ltBQ := BQ.out.lt
    go_wp2_with fail
    (with_reducible refine (CU1.out _).mono ?_)
    rintro e w13 ⟨rfl, b13⟩
    clear c0 c1 c2 c3 c4 c5 y0 y1 y2 y3 z0 z1 z2 z3 p0 p1 p2 p3 q0 q1 q2 q3 ltBX ltBY ltBZ ltBP ltBQ
    replace BX := Lib.hid (BX.out.here b13)
    replace BY := Lib.hid (BY.out.here b13)
    replace BZ := Lib.hid (BZ.out.here b13)
    replace BP := Lib.hid (BP.out.here b13)
    replace BQ := Lib.hid (BQ.out.here b13)
    have B13 := Lib.hid (thence B12.out b13 (Nat.le_refl _))
    replace RP := Lib.hid (RP.out.here b13)
    replace RQ := Lib.hid (RQ.out.here b13)
    replace HR := Lib.hid (HR.out.here b13)
    replace HR' := Lib.hid (HR'.out.here b13)
    replace R1 := Lib.hid (R1.out.here b13)
    replace R2 := Lib.hid (R2.out.here b13)
    clear b13 B12
    obtain ⟨c0, c1, c2, c3, c4, c5⟩ := BX.out.six
    have ltBX := BX.out.lt
    obtain ⟨y0, y1, y2, y3⟩ := BY.out.four
    have ltBY := BY.out.lt
    obtain ⟨z0, z1, z2, z3⟩ := BZ.out.four
    have ltBZ := BZ.out.lt
    obtain ⟨p0, p1, p2, p3⟩ := BP.out.four
    have ltBP := BP.out.lt
    obtain ⟨q0, q1, q2, q3⟩ := BQ.out.four
    have ltBQ := BQ.out.lt
    go_wp2_with fail
    (with_reducible refine (CU2.out _).mono ?_)
    rintro e w14 ⟨rfl, b14⟩
    clear c0 c1 c2 c3 c4 c5 y0 y1 y2 y3 z0 z1 z2 z3 p0 p1 p2 p3 q0 q1 q2 q3 ltBX ltBY ltBZ ltBP ltBQ
    replace BX := Lib.hid (BX.out.here b14)
    replace BY := Lib.hid (BY.out.here b14)
    replace BZ := Lib.hid (BZ.out.here b14)
    replace BP := Lib.hid (BP.out.here b14)
    replace BQ := Lib.hid (BQ.out.here b14)
    have B14 := Lib.hid (thence B13.out b14 (Nat.le_refl _))
    replace RP := Lib.hid (RP.out.here b14)
    replace RQ := Lib.hid (RQ.out.here b14)
    replace HR := Lib.hid (HR.out.here b14)
    replace HR' := Lib.hid (HR'.out.here b14)
    replace R1 := Lib.hid (R1.out.here b14)
    replace R2 := Lib.hid (R2.out.here b14)
    clear b14 B13
    obtain ⟨c0, c1, c2, c3, c4, c5⟩ := BX.out.six
    have ltBX := BX.out.lt
    obtain ⟨y0, y1, y2, y3⟩ := BY.out.four
    have ltBY := BY.out.lt
    obtain ⟨z0, z1, z2, z3⟩ := BZ.out.four
    have ltBZ := BZ.out.lt
    obtain ⟨p0, p1, p2, p3⟩ := BP.out.four
    have ltBP := BP.out.lt
    obtain ⟨q0, q1, q2, q3⟩ := BQ.out.four
    have ltBQ := BQ.out.lt
    obtain rfl : n1 = LL.length := R1.out.long
    obtain rfl : n2 = LL.length := R2.out.long
    have hsm := R1.out.small'
    generalize hnn : LL.length = nn at *
    have HNN : Hid (LL.length = nn) := hnn
    clear hnn
    have f1 : ((nn : Int) != (nn : Int)) = false := by rw [bne_self_eq_false]
    have f2 : ((q : Int) != (q : Int)) = false := by rw [bne_self_eq_false]
    have f3 : ((tq : Int) != (tq : Int)) = false := by rw [bne_self_eq_false]
    have f4 : (tb != tb) = false := by rw [bne_self_eq_false]
    go_wp2_with fail
    refine wp_region_noPanic ?_
    refine PX.wp_region_y (fun w' => Below w14.heap.size w14 w') [] (by kernel_rfl) (Below.refl _ _).drew (fun hHeld => ?_)
    refine PX.wpAnyY_take (i := 0) (oi := ?_) (v := ?_) ?_ (by kernel_rfl) (by kernel_rfl) (by kernel_rfl) (by kernel_rfl) (by kernel_rfl) (fun _ _ _ h => h) (Or.inl ⟨?_, ?_⟩) (by assumption) ?_
    rotate_left 2
    · simp only [List.getElem?_toArray, List.getElem?_cons_succ, List.getElem?_cons_zero]; rfl
    · rfl
    · intro w hSw; (try dsimp only at hSw); go_simp <;> with_reducible rfl
    (try simp only [Act.put, List.setIfInBounds_toArray, List.set_cons_zero, List.set_cons_succ])
    refine PX.wpAnyY_take (i := 1) (oi := ?_) (v := ?_) ?_ (by kernel_rfl) (by kernel_rfl) (by kernel_rfl) (by kernel_rfl) (by kernel_rfl) (fun _ _ _ h => h) (Or.inl ⟨?_, ?_⟩) (by assumption) ?_
    rotate_left 2
    · simp only [List.getElem?_toArray, List.getElem?_cons_succ, List.getElem?_cons_zero]; rfl
    · rfl
    · intro w hSw; (try dsimp only at hSw); go_simp <;> with_reducible rfl
    (try simp only [Act.put, List.setIfInBounds_toArray, List.set_cons_zero, List.set_cons_succ])
    refine PX.wpAnyY_one (i := 2) (o := ?_) (by kernel_rfl) ?_ (fun Kq hKq => ?_)
    rotate_left
    · simp only [List.getElem?_toArray, List.getElem?_cons_succ, List.getElem?_cons_zero]; rfl
    go_simp
    refine hKq.out _ _ (hHeld) (fun hHeld => ?_)
    clear hKq Kq
    (try simp only [Act.put, List.setIfInBounds_toArray, List.set_cons_zero, List.set_cons_succ])
    refine PX.wpAnyY_one (i := 3) (o := ?_) (by kernel_rfl) ?_ (fun Kq hKq => ?_)
    rotate_left
    · simp only [List.getElem?_toArray, List.getElem?_cons_succ, List.getElem?_cons_zero]; rfl
    go_simp
    refine hKq.out _ _ (hHeld) (fun hHeld => ?_)
    clear hKq Kq
    (try simp only [Act.put, List.setIfInBounds_toArray, List.set_cons_zero, List.set_cons_succ])
    refine PX.wpAnyY_one (i := 4) (o := ?_) (by kernel_rfl) ?_ (fun Kq hKq => ?_)
    rotate_left
    · simp only [List.getElem?_toArray, List.getElem?_cons_succ, List.getElem?_cons_zero]; rfl
    go_simp
    refine hKq.out _ _ (hHeld) (fun hHeld => ?_)
    clear hKq Kq
    (try simp only [Act.put, List.setIfInBounds_toArray, List.set_cons_zero, List.set_cons_succ])
    refine PX.wpAnyY_one (i := 5) (o := ?_) (by kernel_rfl) ?_ (fun Kq hKq => ?_)
    rotate_left
    · simp only [List.getElem?_toArray, List.getElem?_cons_succ, List.getElem?_cons_zero]; rfl
    go_simp
    refine hKq.out _ _ (hHeld) (fun hHeld => ?_)
    clear hKq Kq
    (try simp only [Act.put, List.setIfInBounds_toArray, List.set_cons_zero, List.set_cons_succ])
    refine PX.wpAnyY_take (i := 6) (oi := ?_) (v := ?_) ?_ (by kernel_rfl) (by kernel_rfl) (by kernel_rfl) (by kernel_rfl) (by kernel_rfl) (fun _ _ _ h => h) (Or.inl ⟨?_, ?_⟩) (by assumption) ?_
    rotate_left 2
    · simp only [List.getElem?_toArray, List.getElem?_cons_succ, List.getElem?_cons_zero]; rfl
    · rfl
    · intro w hSw; (try dsimp only at hSw); go_simp <;> with_reducible rfl
    (try simp only [Act.put, List.setIfInBounds_toArray, List.set_cons_zero, List.set_cons_succ])
    refine PX.wpAnyY_one (i := 7) (o := ?_) (by kernel_rfl) ?_ (fun Kq hKq => ?_)
    rotate_left
    · simp only [List.getElem?_toArray, List.getElem?_cons_succ, List.getElem?_cons_zero]; rfl
    go_simp
    refine hKq.out _ _ (hHeld) (fun hHeld => ?_)
    clear hKq Kq
    (try simp only [Act.put, List.setIfInBounds_toArray, List.set_cons_zero, List.set_cons_succ])
    refine PX.wpAnyY_one (i := 8) (o := ?_) (by kernel_rfl) ?_ (fun Kq hKq => ?_)
    rotate_left
    · simp only [List.getElem?_toArray, List.getElem?_cons_succ, List.getElem?_cons_zero]; rfl
    go_simp
    refine hKq.out _ _ (hHeld) (fun hHeld => ?_)
    clear hKq Kq
    (try simp only [Act.put, List.setIfInBounds_toArray, List.set_cons_zero, List.set_cons_succ])
    refine PX.wpAnyY_one (i := 9) (o := ?_) (by kernel_rfl) ?_ (fun Kq hKq => ?_)
    rotate_left
    · simp only [List.getElem?_toArray, List.getElem?_cons_succ, List.getElem?_cons_zero]; rfl
    go_simp
    refine hKq.out _ _ (hHeld) (fun hHeld => ?_)
    clear hKq Kq
    (try simp only [Act.put, List.setIfInBounds_toArray, List.set_cons_zero, List.set_cons_succ])
    refine PX.wpAnyY_one (i := 10) (o := ?_) (by kernel_rfl) ?_ (fun Kq hKq => ?_)
    rotate_left
    · simp only [List.getElem?_toArray, List.getElem?_cons_succ, List.getElem?_cons_zero]; rfl
    go_simp
    refine hKq.out _ _ (hHeld) (fun hHeld => ?_)
    clear hKq Kq
    (try simp only [Act.put, List.setIfInBounds_toArray, List.set_cons_zero, List.set_cons_succ])
    refine PX.wpAnyY_take (i := 11) (oi := ?_) (v := ?_) ?_ (by kernel_rfl) (by kernel_rfl) (by kernel_rfl) (by kernel_rfl) (by kernel_rfl) (fun _ _ _ h => h) (Or.inl ⟨?_, ?_⟩) (by assumption) ?_
    rotate_left 2
    · simp only [List.getElem?_toArray, List.getElem?_cons_succ, List.getElem?_cons_zero]; rfl
    · rfl
    · intro w hSw; (try dsimp only at hSw); go_simp <;> with_reducible rfl
    (try simp only [Act.put, List.setIfInBounds_toArray, List.set_cons_zero, List.set_cons_succ])
    refine PX.wpAnyY_one (i := 12) (o := ?_) (by kernel_rfl) ?_ (fun Kq hKq => ?_)
    rotate_left
    · simp only [List.getElem?_toArray, List.getElem?_cons_succ, List.getElem?_cons_zero]; rfl
    go_simp
    refine hKq.out _ _ (hHeld) (fun hHeld => ?_)
    clear hKq Kq
    (try simp only [Act.put, List.setIfInBounds_toArray, List.set_cons_zero, List.set_cons_succ])
    refine PX.wpAnyY_one (i := 13) (o := ?_) (by kernel_rfl) ?_ (fun Kq hKq => ?_)
    rotate_left
    · simp only [List.getElem?_toArray, List.getElem?_cons_succ, List.getElem?_cons_zero]; rfl
    go_simp
    refine hKq.out _ _ (hHeld) (fun hHeld => ?_)
    clear hKq Kq
    (try simp only [Act.put, List.setIfInBounds_toArray, List.set_cons_zero, List.set_cons_succ])
    refine PX.wpAnyY_one (i := 14) (o := ?_) (by kernel_rfl) ?_ (fun Kq hKq => ?_)
    rotate_left
    · simp only [List.getElem?_toArray, List.getElem?_cons_succ, List.getElem?_cons_zero]; rfl
    go_simp
    refine hKq.out _ _ (hHeld) (fun hHeld => ?_)
    clear hKq Kq
    (try simp only [Act.put, List.setIfInBounds_toArray, List.set_cons_zero, List.set_cons_succ])
    refine PX.wpAnyY_one (i := 15) (o := ?_) (by kernel_rfl) ?_ (fun Kq hKq => ?_)
    rotate_left
    · simp only [List.getElem?_toArray, List.getElem?_cons_succ, List.getElem?_cons_zero]; rfl
    go_simp
    refine hKq.out _ _ (hHeld) (fun hHeld => ?_)
    clear hKq Kq
    (try simp only [Act.put, List.setIfInBounds_toArray, List.set_cons_zero, List.set_cons_succ])
    refine PX.wpAnyY_take (i := 16) (oi := ?_) (v := ?_) ?_ (by kernel_rfl) (by kernel_rfl) (by kernel_rfl) (by kernel_rfl) (by kernel_rfl) (fun _ _ _ h => h) (Or.inl ⟨?_, ?_⟩) (by assumption) ?_
    rotate_left 2
    · simp only [List.getElem?_toArray, List.getElem?_cons_succ, List.getElem?_cons_zero]; rfl
    · rfl
    · intro w hSw; (try dsimp only at hSw); go_simp <;> with_reducible rfl
    (try simp only [Act.put, List.setIfInBounds_toArray, List.set_cons_zero, List.set_cons_succ])
    refine PX.wpAnyY_one (i := 17) (o := ?_) (by kernel_rfl) ?_ (fun Kq hKq => ?_)
    rotate_left
    · simp only [List.getElem?_toArray, List.getElem?_cons_succ, List.getElem?_cons_zero]; rfl
    go_simp
    refine hKq.out _ _ (hHeld) (fun hHeld => ?_)
    clear hKq Kq
    (try simp only [Act.put, List.setIfInBounds_toArray, List.set_cons_zero, List.set_cons_succ])
    refine PX.wpAnyY_one (i := 18) (o := ?_) (by kernel_rfl) ?_ (fun Kq hKq => ?_)
    rotate_left
    · simp only [List.getElem?_toArray, List.getElem?_cons_succ, List.getElem?_cons_zero]; rfl
    go_simp
    refine hKq.out _ _ (hHeld) (fun hHeld => ?_)
    clear hKq Kq
    (try simp only [Act.put, List.setIfInBounds_toArray, List.set_cons_zero, List.set_cons_succ])
    refine PX.wpAnyY_one (i := 19) (o := ?_) (by kernel_rfl) ?_ (fun Kq hKq => ?_)
    rotate_left
    · simp only [List.getElem?_toArray, List.getElem?_cons_succ, List.getElem?_cons_zero]; rfl
    go_simp
    refine hKq.out _ _ (hHeld) (fun hHeld => ?_)
    clear hKq Kq
    (try simp only [Act.put, List.setIfInBounds_toArray, List.set_cons_zero, List.set_cons_succ])
    refine PX.wpAnyY_one (i := 20) (o := ?_) (by kernel_rfl) ?_ (fun Kq hKq => ?_)
    rotate_left
    · simp only [List.getElem?_toArray, List.getElem?_cons_succ, List.getElem?_cons_zero]; rfl
    go_simp
    refine hKq.out _ _ (hHeld) (fun hHeld => ?_)
    clear hKq Kq
    (try simp only [Act.put, List.setIfInBounds_toArray, List.set_cons_zero, List.set_cons_succ])
    refine PX.wpAnyY_take (i := 21) (oi := ?_) (v := ?_) ?_ (by kernel_rfl) (by kernel_rfl) (by kernel_rfl) (by kernel_rfl) (by kernel_rfl) (fun _ _ _ h => h) (Or.inl ⟨?_, ?_⟩) (by assumption) ?_
    rotate_left 2
    · simp only [List.getElem?_toArray, List.getElem?_cons_succ, List.getElem?_cons_zero]; rfl
    · rfl
    · intro w hSw; (try dsimp only at hSw); have hC := fun (b o : Nat) (h : b < w14.heap.size) => Below.cell hSw (p := ⟨b, o, none⟩) h; go_simp <;> with_reducible rfl
    (try simp only [Act.put, List.setIfInBounds_toArray, List.set_cons_zero, List.set_cons_succ])
    refine PX.wpAnyY_take (i := 22) (oi := ?_) (v := ?_) ?_ (by kernel_rfl) (by kernel_rfl) (by kernel_rfl) (by kernel_rfl) (by kernel_rfl) (fun _ _ _ h => h) (Or.inl ⟨?_, ?_⟩) (by assumption) ?_
    rotate_left 2
    · simp only [List.getElem?_toArray, List.getElem?_cons_succ, List.getElem?_cons_zero]; rfl
    · rfl
    · intro w hSw; (try dsimp only at hSw); have hC := fun (b o : Nat) (h : b < w14.heap.size) => Below.cell hSw (p := ⟨b, o, none⟩) h; go_simp <;> with_reducible rfl
    (try simp only [Act.put, List.setIfInBounds_toArray, List.set_cons_zero, List.set_cons_succ])
    refine PX.wpAnyY_take (i := 24) (oi := ?_) (v := ?_) ?_ (by kernel_rfl) (by kernel_rfl) (by kernel_rfl) (by kernel_rfl) (by kernel_rfl) (fun _ _ _ h => h) (Or.inl ⟨?_, ?_⟩) (by assumption) ?_
    rotate_left 2
    · simp only [List.getElem?_toArray, List.getElem?_cons_succ, List.getElem?_cons_zero]; rfl
    · rfl
    · intro w hSw; (try dsimp only at hSw); have hC := fun (b o : Nat) (h : b < w14.heap.size) => Below.cell hSw (p := ⟨b, o, none⟩) h; go_simp <;> with_reducible rfl
    (try simp only [Act.put, List.setIfInBounds_toArray, List.set_cons_zero, List.set_cons_succ])
    refine PX.wpAnyY_take (i := 25) (oi := ?_) (v := ?_) ?_ (by kernel_rfl) (by kernel_rfl) (by kernel_rfl) (by kernel_rfl) (by kernel_rfl) (fun _ _ _ h => h) (Or.inl ⟨?_, ?_⟩) (by assumption) ?_
    rotate_left 2
    · simp only [List.getElem?_toArray, List.getElem?_cons_succ, List.getElem?_cons_zero]; rfl
    · rfl
    · intro w hSw; (try dsimp only at hSw); have hC := fun (b o : Nat) (h : b < w14.heap.size) => Below.cell hSw (p := ⟨b, o, none⟩) h; go_simp <;> with_reducible rfl
    (try simp only [Act.put, List.setIfInBounds_toArray, List.set_cons_zero, List.set_cons_succ])
    refine PX.wpAnyY_one (i := 23) (o := ?_) (by kernel_rfl) ?_ (fun Kq hKq => ?_)
    rotate_left
    · simp only [List.getElem?_toArray, List.getElem?_cons_succ, List.getElem?_cons_zero]; rfl
    go_simp
    (with_reducible refine (CK1.out _).mono ?_)
    rintro e u1 ⟨rfl, bq⟩
    have Hu1 := Lib.hid (thence hHeld bq (Nat.le_refl _))
    clear bq
    go_wp2_with fail
    refine hKq.out _ _ (Hu1.out) (fun hHeld => ?_)
    clear hKq Kq
    (try simp only [Act.put, List.setIfInBounds_toArray, List.set_cons_zero, List.set_cons_succ])
    refine PX.wpAnyY_one (i := 26) (o := ?_) (by kernel_rfl) ?_ (fun Kq hKq => ?_)
    rotate_left
    · simp only [List.getElem?_toArray, List.getElem?_cons_succ, List.getElem?_cons_zero]; rfl
    go_simp
    (with_reducible refine (CK2.out _).mono ?_)
    rintro e u2 ⟨rfl, bq⟩
    have Hu2 := Lib.hid (thence hHeld bq (Nat.le_refl _))
    clear bq
    go_wp2_with fail
    refine hKq.out _ _ (Hu2.out) (fun hHeld => ?_)
    clear hKq Kq
    (try simp only [Act.put, List.setIfInBounds_toArray, List.set_cons_zero, List.set_cons_succ])
    refine PX.wpAnyY_one (i := 27) (o := ?_) (by kernel_rfl) ?_ (fun Kq hKq => ?_)
    rotate_left
    · simp only [List.getElem?_toArray, List.getElem?_cons_succ, List.getElem?_cons_zero]; rfl
    go_simp
    refine hKq.out _ _ (hHeld) (fun hHeld => ?_)
    clear hKq Kq
    (try simp only [Act.put, List.setIfInBounds_toArray, List.set_cons_zero, List.set_cons_succ])
    refine PX.wpAnyY_one (i := 28) (o := ?_) (by kernel_rfl) ?_ (fun Kq hKq => ?_)
    rotate_left
    · simp only [List.getElem?_toArray, List.getElem?_cons_succ, List.getElem?_cons_zero]; rfl
    go_simp
    refine hKq.out _ _ (hHeld) (fun hHeld => ?_)
    clear hKq Kq
    (try simp only [Act.put, List.setIfInBounds_toArray, List.set_cons_zero, List.set_cons_succ])
    refine PX.wpAnyY_done (by kernel_rfl) ?_ _
    refine NoPanic.normal ?_
    have HE := Lib.hid Hu2.out
    clear hHeld Hu1 Hu2 c0 c1 c2 c3 c4 c5 y0 y1 y2 y3 z0 z1 z2 z3 p0 p1 p2 p3 q0 q1 q2 q3 ltBX ltBY ltBZ ltBP ltBQ
    go_wp2_with fail
    go_loopw [17] (fun x wr => ∃ i : Nat, i ≤ nn ∧ x = .int .i64 i ∧ Below w14.heap.size w14 wr) (fun x _ => nn - (intOf x).toNat)
    case atStart => exact ⟨0, Nat.zero_le _, rfl, HE.out⟩
    case round =>
      obtain ⟨i, hi, rfl, hb⟩ := hrel
      have HBr := Lib.hid hb
      have R1r := Lib.hid (R1.out.here hb)
      have R2r := Lib.hid (R2.out.here hb)
      by_cases hlt : i < nn
      · clear hb
        obtain ⟨lb, lo, ea, -, hlb⟩ := R1r.out.addr (by rw [HNN.out]; omega)
        subst ea
        obtain ⟨mb, mo, ea, -, hmb⟩ := R2r.out.addr (by rw [HNN.out]; omega)
        subst ea
        have l0 := R1r.out.num (k := i) (by rw [HNN.out]; omega)
        have m0 := R2r.out.num (k := i) (by rw [HNN.out]; omega)
        generalize LL.getD i 0 = lv at *
        have hltI : (i : Int) < (nn : Int) := by omega
        have f5 : ((lv : Int) != lv) = false := by rw [bne_self_eq_false]
        go_wp2_with fail
        go_quiet (fail)
        go_wp2_with fail
        go_roundw
        case rel => exact ⟨i + 1, by omega, by go_num, below_drewN HBr.out _⟩
        case measure => simp [intOf]; omega
      · obtain rfl : i = nn := by omega
        replace BY := Lib.hid (BY.out.here hb)
        replace BZ := Lib.hid (BZ.out.here hb)
        replace BP := Lib.hid (BP.out.here hb)
        replace BQ := Lib.hid (BQ.out.here hb)
        replace RP := Lib.hid (RP.out.here hb)
        replace RQ := Lib.hid (RQ.out.here hb)
        replace HR := Lib.hid (HR.out.here hb)
        replace HR' := Lib.hid (HR'.out.here hb)
        obtain ⟨y0, y1, y2, y3⟩ := BY.out.four
        obtain ⟨z0, z1, z2, z3⟩ := BZ.out.four
        obtain ⟨p0, p1, p2, p3⟩ := BP.out.four
        obtain ⟨q0, q1, q2, q3⟩ := BQ.out.four
        have ltBZ := BZ.out.lt
        have ltBQ := BQ.out.lt
        clear hb
        go_wp2_with fail
        refine (ref8Same_eq _ _ _ _ _ _ _ _ _ l _ RP.out HR.out).mono ?_
        rintro e w20 ⟨rfl, b20⟩
        have B20 := Lib.hid (thence B14.out (thence HBr.out b20 (Nat.le_refl _)) (Nat.le_refl _))
        replace BZ := Lib.hid (BZ.out.here b20)
        replace BQ := Lib.hid (BQ.out.here b20)
        replace RQ := Lib.hid (RQ.out.here b20)
        replace HR' := Lib.hid (HR'.out.here b20)
        clear b20 y0 y1 y2 y3 z0 z1 z2 z3 p0 p1 p2 p3 q0 q1 q2 q3 ltBZ ltBQ
        obtain ⟨z0, z1, z2, z3⟩ := BZ.out.four
        obtain ⟨q0, q1, q2, q3⟩ := BQ.out.four
        go_wp2_with fail
        refine (ref8Same_eq _ _ _ _ _ _ _ _ _ l' _ RQ.out HR'.out).mono ?_
        rintro e w21 ⟨rfl, b21⟩
        have B21 := Lib.hid (thence B20.out b21 (Nat.le_refl _))
        clear b21
        go_wp2_with fail
        go_ret
        exact ⟨rfl, B21.out⟩
end Go.Proofs.Ytbhehicfenkbcaa.PW
