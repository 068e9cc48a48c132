/-
  Layer 8: what the program's own calls answer.
-/
import Derived.Test.YtbhehicfenkbcaaSplitLaws
import Derived.Test.YtbhehicfenkbcaaShapeCalls
import Derived.Maps.OwnOps
import Derived.Maps.Views
namespace Go.Proofs.Ytbhehicfenkbcaa.PW
open Go.RowKit Go.Maps
open SK (Cfg)
set_option linter.unusedVariables false
set_option linter.unusedSimpArgs false
set_option maxRecDepth 100000

theorem shapeBlocks : ShapeNum 20 (fun c => c.chunk * c.rows * (c.mem - 1)) := shBlocks_is

/-- The kinds that have blocks; the kinds there are. -/
def spBl (k : Nat) : Bool := k == 1 || k == 2 || k == 3 || k == 5
def spOk (k : Nat) : Bool := k == 1 || k == 2 || k == 3 || k == 4 || k == 5 || k == 6

set_option maxHeartbeats 2000000 in
theorem spKindOf_any (k : Nat) (w : World) :
    Calls Try.prog 25 #[.int .u8 (k : Int)] w fun e w' => e = .returned (.tuple #[.agg #[.bool (spBl k), .bool (QK.bts k), .bool (QK.wr k)], .bool (spOk k)]) ∧ Below w.heap.size w w' := by
  by_cases h1 : k = 1
  · subst h1
    show Calls Try.prog 25 #[.int .u8 1] w fun e w' => e = .returned (.tuple #[.agg #[.bool true, .bool false, .bool false], .bool true]) ∧ Below w.heap.size w w'
    go_enter Try.func25, Try.ntmps25
    go_wp2_with fail
    refine bodyPost_ret (v := .tuple #[.agg #[.bool true, .bool false, .bool false], .bool true]) (by simp [results, Try.results25, go_sem]) rfl ⟨rfl, ?_⟩
    exact ((Below.refl _ _).alloc (Nat.le_refl _) _).alloc (by simp) _
  have e1 : ((k : Int) == 1) = false := beq_eq_false_iff_ne.2 (by omega)
  by_cases h2 : k = 2
  · subst h2
    show Calls Try.prog 25 #[.int .u8 2] w fun e w' => e = .returned (.tuple #[.agg #[.bool true, .bool true, .bool true], .bool true]) ∧ Below w.heap.size w w'
    go_enter Try.func25, Try.ntmps25
    go_wp2_with fail
    refine bodyPost_ret (v := .tuple #[.agg #[.bool true, .bool true, .bool true], .bool true]) (by simp [results, Try.results25, go_sem]) rfl ⟨rfl, ?_⟩
    exact ((Below.refl _ _).alloc (Nat.le_refl _) _).alloc (by simp) _
  have e2 : ((k : Int) == 2) = false := beq_eq_false_iff_ne.2 (by omega)
  by_cases h3 : k = 3
  · subst h3
    show Calls Try.prog 25 #[.int .u8 3] w fun e w' => e = .returned (.tuple #[.agg #[.bool true, .bool true, .bool true], .bool true]) ∧ Below w.heap.size w w'
    go_enter Try.func25, Try.ntmps25
    go_wp2_with fail
    refine bodyPost_ret (v := .tuple #[.agg #[.bool true, .bool true, .bool true], .bool true]) (by simp [results, Try.results25, go_sem]) rfl ⟨rfl, ?_⟩
    exact ((Below.refl _ _).alloc (Nat.le_refl _) _).alloc (by simp) _
  have e3 : ((k : Int) == 3) = false := beq_eq_false_iff_ne.2 (by omega)
  by_cases h4 : k = 4
  · subst h4
    show Calls Try.prog 25 #[.int .u8 4] w fun e w' => e = .returned (.tuple #[.agg #[.bool false, .bool false, .bool false], .bool true]) ∧ Below w.heap.size w w'
    go_enter Try.func25, Try.ntmps25
    go_wp2_with fail
    refine bodyPost_ret (v := .tuple #[.agg #[.bool false, .bool false, .bool false], .bool true]) (by simp [results, Try.results25, go_sem]) rfl ⟨rfl, ?_⟩
    exact ((Below.refl _ _).alloc (Nat.le_refl _) _).alloc (by simp) _
  have e4 : ((k : Int) == 4) = false := beq_eq_false_iff_ne.2 (by omega)
  by_cases h5 : k = 5
  · subst h5
    show Calls Try.prog 25 #[.int .u8 5] w fun e w' => e = .returned (.tuple #[.agg #[.bool true, .bool false, .bool true], .bool true]) ∧ Below w.heap.size w w'
    go_enter Try.func25, Try.ntmps25
    go_wp2_with fail
    refine bodyPost_ret (v := .tuple #[.agg #[.bool true, .bool false, .bool true], .bool true]) (by simp [results, Try.results25, go_sem]) rfl ⟨rfl, ?_⟩
    exact ((Below.refl _ _).alloc (Nat.le_refl _) _).alloc (by simp) _
  have e5 : ((k : Int) == 5) = false := beq_eq_false_iff_ne.2 (by omega)
  by_cases h6 : k = 6
  · subst h6
    show Calls Try.prog 25 #[.int .u8 6] w fun e w' => e = .returned (.tuple #[.agg #[.bool false, .bool false, .bool false], .bool true]) ∧ Below w.heap.size w w'
    go_enter Try.func25, Try.ntmps25
    go_wp2_with fail
    refine bodyPost_ret (v := .tuple #[.agg #[.bool false, .bool false, .bool false], .bool true]) (by simp [results, Try.results25, go_sem]) rfl ⟨rfl, ?_⟩
    exact ((Below.refl _ _).alloc (Nat.le_refl _) _).alloc (by simp) _
  have e6 : ((k : Int) == 6) = false := beq_eq_false_iff_ne.2 (by omega)
  have v1 : spBl k = false := by simp [spBl, h1, h2, h3, h5]
  have v2 : QK.bts k = false := by simp [QK.bts, h2, h3]
  have v3 : QK.wr k = false := by simp [QK.wr, h2, h3, h5]
  have v4 : spOk k = false := by simp [spOk, h1, h2, h3, h4, h5, h6]
  rw [v1, v2, v3, v4]
  clear v1 v2 v3 v4 h1 h2 h3 h4 h5 h6
  go_enter Try.func25, Try.ntmps25
  go_wp2_with fail
  refine bodyPost_ret (v := .tuple #[.agg #[.bool false, .bool false, .bool false], .bool false]) (by simp [results, Try.results25, go_sem]) rfl ⟨rfl, ?_⟩
  exact ((Below.refl _ _).alloc (Nat.le_refl _) _).alloc (by simp) _

def plc (b : Bool) (at_ many n : Int) : Bool := if b = true then decide (1 ≤ many ∧ many ≤ 8 ∧ 0 ≤ at_ ∧ at_ ≤ n - many) else decide (at_ = 0 ∧ many = 0)
theorem plc_is {c : Cfg} {k : Nat} {at_ many : Int} (h : spOk k = true) : plc (spBl k) at_ many c.blocks = QK.placed c k at_ many := by
  have hk : k = 1 ∨ k = 2 ∨ k = 3 ∨ k = 4 ∨ k = 5 ∨ k = 6 := by simpa [spOk, or_assoc] using h
  unfold plc QK.placed QK.placedP
  rcases hk with rfl | rfl | rfl | rfl | rfl | rfl <;> simp [spBl, QK.wh]
theorem spOk_no {c : Cfg} {k : Nat} {at_ many : Int} (h : spOk k = false) : QK.placed c k at_ many = false := QK.placed_no_k (fun q => by
  have hk : k = 1 ∨ k = 2 ∨ k = 3 ∨ k = 4 ∨ k = 5 ∨ k = 6 := by omega
  rcases hk with rfl | rfl | rfl | rfl | rfl | rfl <;> cases h)

set_option maxHeartbeats 2000000 in
theorem spPlaced_any (b0 b1 b2 : Bool) (k : Nat) (at_ many : Int) (da : Option Addr) (dn dc : Nat) (n : Int) (w : World) (hn : 0 ≤ n ∧ n ≤ 4096) :
    Calls Try.prog 26 #[.agg #[.bool b0, .bool b1, .bool b2], .agg #[.int .u8 (k : Int), .int .i64 at_, .int .i64 many, .slice da dn dc], .int .i64 n] w fun e w' => e = .returned (.bool (plc b0 at_ many n)) ∧ Below w.heap.size w w' := by
  have ha1 : Below w.heap.size w (w.alloc (.cells #[.bool b0, .bool b1, .bool b2] 55)) := (Below.refl _ _).alloc (Nat.le_refl _) _
  have ha2 : Below (w.alloc (.cells #[.bool b0, .bool b1, .bool b2] 55)).heap.size (w.alloc (.cells #[.bool b0, .bool b1, .bool b2] 55)) ((w.alloc (.cells #[.bool b0, .bool b1, .bool b2] 55)).alloc (.cells #[.int .u8 (k : Int), .int .i64 at_, .int .i64 many, .slice da dn dc] 32)) := (Below.refl _ _).alloc (Nat.le_refl _) _
  have B0 : Hid (Below w.heap.size w ((w.alloc (.cells #[.bool b0, .bool b1, .bool b2] 55)).alloc (.cells #[.int .u8 (k : Int), .int .i64 at_, .int .i64 many, .slice da dn dc] 32))) := thence (ha1) ha2 (Nat.le_refl _)
  have BX : Hid (Bx ((w.alloc (.cells #[.bool b0, .bool b1, .bool b2] 55)).alloc (.cells #[.int .u8 (k : Int), .int .i64 at_, .int .i64 many, .slice da dn dc] 32)) (w.heap.size) [.bool b0, .bool b1, .bool b2]) := ((Bx.new w [.bool b0, .bool b1, .bool b2] 55)).here ha2
  have BY : Hid (Bx ((w.alloc (.cells #[.bool b0, .bool b1, .bool b2] 55)).alloc (.cells #[.int .u8 (k : Int), .int .i64 at_, .int .i64 many, .slice da dn dc] 32)) (w.heap.size + 1) [.int .u8 (k : Int), .int .i64 at_, .int .i64 many, .slice da dn dc]) := by
    have h := (Bx.new (w.alloc (.cells #[.bool b0, .bool b1, .bool b2] 55)) [.int .u8 (k : Int), .int .i64 at_, .int .i64 many, .slice da dn dc] 32)
    have e : (w.alloc (.cells #[.bool b0, .bool b1, .bool b2] 55)).heap.size = w.heap.size + 1 := by simp
    rw [e] at h
    exact h
  clear ha1 ha2
  obtain ⟨hn0, hn1⟩ := hn
  unfold plc
  cases b0 with
  | false =>
    rw [if_neg (by simp)]
    by_cases g1 : at_ = 0
    · by_cases g2 : many = 0
      · rw [decide_eq_true (show at_ = 0 ∧ many = 0 from ⟨g1, g2⟩)]
        subst g1 g2
        go_enter Try.func26, Try.ntmps26
        go_wp2_with fail
        go_ret
        exact ⟨rfl, B0.out⟩
      · rw [decide_eq_false (show ¬ (at_ = 0 ∧ many = 0) from fun q => g2 q.2)]
        have e2 : (many == 0) = false := beq_eq_false_iff_ne.2 g2
        subst g1
        go_enter Try.func26, Try.ntmps26
        go_wp2_with fail
        go_ret
        exact ⟨rfl, B0.out⟩
    · rw [decide_eq_false (show ¬ (at_ = 0 ∧ many = 0) from fun q => g1 q.1)]
      have e1 : (at_ == 0) = false := beq_eq_false_iff_ne.2 g1
      go_enter Try.func26, Try.ntmps26
      go_wp2_with fail
      go_ret
      exact ⟨rfl, B0.out⟩
  | true =>
    rw [if_pos rfl]
    by_cases g1 : 1 ≤ many
    case neg =>
      rw [decide_eq_false (show ¬ (1 ≤ many ∧ many ≤ 8 ∧ 0 ≤ at_ ∧ at_ ≤ n - many) from fun q => g1 (by omega))]
      have f1 : decide (1 ≤ many) = false := decide_eq_false g1
      go_enter Try.func26, Try.ntmps26
      go_wp2_with fail
      go_ret
      exact ⟨rfl, B0.out⟩
    have f1 : decide (1 ≤ many) = true := decide_eq_true g1
    by_cases g2 : many ≤ 8
    case neg =>
      rw [decide_eq_false (show ¬ (1 ≤ many ∧ many ≤ 8 ∧ 0 ≤ at_ ∧ at_ ≤ n - many) from fun q => g2 (by omega))]
      have f2 : decide (many ≤ 8) = false := decide_eq_false g2
      go_enter Try.func26, Try.ntmps26
      go_wp2_with fail
      go_ret
      exact ⟨rfl, B0.out⟩
    have f2 : decide (many ≤ 8) = true := decide_eq_true g2
    by_cases g3 : 0 ≤ at_
    case neg =>
      rw [decide_eq_false (show ¬ (1 ≤ many ∧ many ≤ 8 ∧ 0 ≤ at_ ∧ at_ ≤ n - many) from fun q => g3 (by omega))]
      have f3 : decide (0 ≤ at_) = false := decide_eq_false g3
      go_enter Try.func26, Try.ntmps26
      go_wp2_with fail
      go_ret
      exact ⟨rfl, B0.out⟩
    have f3 : decide (0 ≤ at_) = true := decide_eq_true g3
    have s1 : IntKind.i64.wrap (n - many) = n - many := IntWalk.i64_in _ (by omega)
    by_cases g4 : at_ ≤ n - many
    · rw [decide_eq_true (show 1 ≤ many ∧ many ≤ 8 ∧ 0 ≤ at_ ∧ at_ ≤ n - many from ⟨g1, g2, g3, g4⟩)]
      have f4 : decide (at_ ≤ n - many) = true := decide_eq_true g4
      go_enter Try.func26, Try.ntmps26
      go_wp2_with fail
      go_ret
      exact ⟨rfl, B0.out⟩
    · rw [decide_eq_false (show ¬ (1 ≤ many ∧ many ≤ 8 ∧ 0 ≤ at_ ∧ at_ ≤ n - many) from fun q => g4 q.2.2.2)]
      have f4 : decide (at_ ≤ n - many) = false := decide_eq_false g4
      go_enter Try.func26, Try.ntmps26
      go_wp2_with fail
      go_ret
      exact ⟨rfl, B0.out⟩

set_option maxHeartbeats 2000000 in
theorem spBytes_any (b0 b1 b2 : Bool) (k : Nat) (at_ many : Int) (da : Option Addr) (dn dc : Nat) (w : World) (hm : 0 ≤ many ∧ many ≤ 8) :
    Calls Try.prog 27 #[.agg #[.bool b0, .bool b1, .bool b2], .agg #[.int .u8 (k : Int), .int .i64 at_, .int .i64 many, .slice da dn dc]] w fun e w' => e = .returned (.int .i64 (if b1 = true then many * 128 else 0)) ∧ Below w.heap.size w w' := by
  have ha1 : Below w.heap.size w (w.alloc (.cells #[.bool b0, .bool b1, .bool b2] 55)) := (Below.refl _ _).alloc (Nat.le_refl _) _
  have ha2 : Below (w.alloc (.cells #[.bool b0, .bool b1, .bool b2] 55)).heap.size (w.alloc (.cells #[.bool b0, .bool b1, .bool b2] 55)) ((w.alloc (.cells #[.bool b0, .bool b1, .bool b2] 55)).alloc (.cells #[.int .u8 (k : Int), .int .i64 at_, .int .i64 many, .slice da dn dc] 32)) := (Below.refl _ _).alloc (Nat.le_refl _) _
  have B0 : Hid (Below w.heap.size w ((w.alloc (.cells #[.bool b0, .bool b1, .bool b2] 55)).alloc (.cells #[.int .u8 (k : Int), .int .i64 at_, .int .i64 many, .slice da dn dc] 32))) := thence (ha1) ha2 (Nat.le_refl _)
  have BX : Hid (Bx ((w.alloc (.cells #[.bool b0, .bool b1, .bool b2] 55)).alloc (.cells #[.int .u8 (k : Int), .int .i64 at_, .int .i64 many, .slice da dn dc] 32)) (w.heap.size) [.bool b0, .bool b1, .bool b2]) := ((Bx.new w [.bool b0, .bool b1, .bool b2] 55)).here ha2
  have BY : Hid (Bx ((w.alloc (.cells #[.bool b0, .bool b1, .bool b2] 55)).alloc (.cells #[.int .u8 (k : Int), .int .i64 at_, .int .i64 many, .slice da dn dc] 32)) (w.heap.size + 1) [.int .u8 (k : Int), .int .i64 at_, .int .i64 many, .slice da dn dc]) := by
    have h := (Bx.new (w.alloc (.cells #[.bool b0, .bool b1, .bool b2] 55)) [.int .u8 (k : Int), .int .i64 at_, .int .i64 many, .slice da dn dc] 32)
    have e : (w.alloc (.cells #[.bool b0, .bool b1, .bool b2] 55)).heap.size = w.heap.size + 1 := by simp
    rw [e] at h
    exact h
  clear ha1 ha2
  obtain ⟨hm0, hm1⟩ := hm
  cases b1 with
  | false =>
    rw [if_neg (by simp)]
    go_enter Try.func27, Try.ntmps27
    go_wp2_with fail
    go_ret
    exact ⟨rfl, B0.out⟩
  | true =>
    rw [if_pos rfl]
    go_enter Try.func27, Try.ntmps27
    go_wp2_with fail
    go_ret
    exact ⟨rfl, B0.out⟩

set_option maxHeartbeats 2000000 in
theorem spWrites_any (k : Nat) (at_ many : Int) (da : Option Addr) (dn dc : Nat) (w : World) :
    Calls Try.prog 23 #[.agg #[.int .u8 (k : Int), .int .i64 at_, .int .i64 many, .slice da dn dc]] w fun e w' => e = .returned (.bool (QK.wr k)) ∧ Below w.heap.size w w' := by
  have ha1 : Below w.heap.size w (w.alloc (.cells #[.int .u8 (k : Int), .int .i64 at_, .int .i64 many, .slice da dn dc] 32)) := (Below.refl _ _).alloc (Nat.le_refl _) _
  have B0 : Hid (Below w.heap.size w (w.alloc (.cells #[.int .u8 (k : Int), .int .i64 at_, .int .i64 many, .slice da dn dc] 32))) := ha1
  have BX : Hid (Bx (w.alloc (.cells #[.int .u8 (k : Int), .int .i64 at_, .int .i64 many, .slice da dn dc] 32)) (w.heap.size) [.int .u8 (k : Int), .int .i64 at_, .int .i64 many, .slice da dn dc]) := (Bx.new w [.int .u8 (k : Int), .int .i64 at_, .int .i64 many, .slice da dn dc] 32)
  clear ha1
  have CK := Lib.hid (spKindOf_any k)
  generalize spBl k = x0 at *
  generalize QK.bts k = x1 at *
  generalize QK.wr k = x2 at *
  generalize spOk k = x3 at *
  go_enter Try.func23, Try.ntmps23
  go_wp2_with fail
  (with_reducible refine (CK.out _).mono ?_)
  rintro e w1 ⟨rfl, b1⟩
  replace BX := Lib.hid (BX.out.here b1)
  have B1 := Lib.hid (thence B0.out b1 (Nat.le_refl _))
  clear b1 B0
  go_wp2_with fail
  go_ret
  exact ⟨rfl, B1.out.alloc B1.out.size _⟩

/-- What the blocks of a request are: their number, and one more. -/
theorem spBlks {at_ : Int} {m : Nat} : (QK.blks at_ (m : Int)).length = m ∧ ∀ i, i < m → (QK.blks at_ (m : Int)).take (i + 1) = (QK.blks at_ (m : Int)).take i ++ [at_ + (i : Int)] := by
  have hl : (QK.blks at_ (m : Int)).length = m := by rw [QK.blks_length]; simp
  refine ⟨hl, fun i hi => ?_⟩
  rw [List.take_succ_eq_append_getElem (by rw [hl]; exact hi)]
  have := QK.blks_get (at_ := at_) (many := (m : Int)) (i := i) (by simpa using hi)
  simp only [List.getD, List.getElem?_eq_getElem (show i < (QK.blks at_ (m : Int)).length by rw [hl]; exact hi), Option.getD_some] at this
  rw [this]

set_option maxHeartbeats 2000000 in
theorem spBlocksOf_any (k : Nat) (at_ many : Int) (da : Option Addr) (dn dc : Nat) (w : World) (hb : 0 ≤ at_ ∧ at_ ≤ 960 ∧ 0 ≤ many ∧ many ≤ 8) :
    Calls Try.prog 22 #[.agg #[.int .u8 (k : Int), .int .i64 at_, .int .i64 many, .slice da dn dc]] w (NewRg kInt w (QK.blks at_ many)) := by
  have ha1 : Below w.heap.size w (w.alloc (.cells #[.int .u8 (k : Int), .int .i64 at_, .int .i64 many, .slice da dn dc] 32)) := (Below.refl _ _).alloc (Nat.le_refl _) _
  have B0 : Hid (Below w.heap.size w (w.alloc (.cells #[.int .u8 (k : Int), .int .i64 at_, .int .i64 many, .slice da dn dc] 32))) := ha1
  have BX : Hid (Bx (w.alloc (.cells #[.int .u8 (k : Int), .int .i64 at_, .int .i64 many, .slice da dn dc] 32)) (w.heap.size) [.int .u8 (k : Int), .int .i64 at_, .int .i64 many, .slice da dn dc]) := (Bx.new w [.int .u8 (k : Int), .int .i64 at_, .int .i64 many, .slice da dn dc] 32)
  clear ha1
  obtain ⟨x0, x1, x2, x3⟩ := hb
  obtain ⟨m, rfl⟩ := Int.eq_ofNat_of_zero_le x2
  have BL := Lib.hid (spBlks (at_ := at_) (m := m)).1
  have BG := Lib.hid (spBlks (at_ := at_) (m := m)).2
  go_enter Try.func22, Try.ntmps22
  go_wp2_with fail
  generalize (w.alloc (.cells #[.int .u8 (k : Int), .int .i64 at_, .int .i64 (m : Int), .slice da dn dc] 32)) = W0 at *
  have l0 := BX.out.lt
  obtain ⟨y0, y1, y2, y3⟩ := BX.out.four
  go_wp2_with fail
  clear y0 y1 y2 y3 l0
  go_loopw [3, 7] (fun v i wr => ∃ (j : Nat) (a : Option Addr) (cp : Nat), j ≤ m ∧ i = .int .i64 (j : Int) ∧ v = .slice a j cp ∧ GrowK kInt 3 W0.heap.size wr (.slice a j cp) ((QK.blks at_ (m : Int)).take j) ∧ Below W0.heap.size W0 wr) (fun _ i _ => ((m : Int) - intOf i).toNat)
  case atStart => exact ⟨0, none, 0, Nat.zero_le _, rfl, rfl, GrowK.nil _ _ _ _, Below.refl _ _⟩
  case round =>
    obtain ⟨j, a, cp, hj, rfl, rfl, hg, hb⟩ := hrel
    have HB := Lib.hid hb
    have GK := Lib.hid hg
    have BR := Lib.hid (BX.out.here hb)
    have ltBR := BR.out.lt
    obtain ⟨y0, y1, y2, y3⟩ := BR.out.four
    have hsz := hb.size
    clear hb hg
    by_cases hlt : j < m
    · obtain ⟨v6, w6, r6, g6, b6⟩ := GrowK.step typed_int GK.out hsz (by rw [List.length_take]; omega) (Below.refl _ _) (x := at_ + (j : Int)) (lo := wr.heap.size) (hi := wr.heap.size) trivial (Nat.le_refl _) (Nat.le_refl _)
      rw [← BG.out j hlt] at g6
      obtain ⟨a6, cp6, e6, -⟩ := g6.rg
      have hl6 : ((QK.blks at_ (m : Int)).take (j + 1)).length = j + 1 := by rw [List.length_take, BL.out]; omega
      rw [hl6] at e6
      subst e6
      have R6 := Lib.hid r6
      have G6 := Lib.hid g6
      have B6 := Lib.hid (HB.out.trans b6)
      clear r6 g6 b6 hl6
      have R6' : Hid ((Builtin.append_ #[26, 26] 26 #[.slice a j cp, .slice (some ⟨wr.heap.size, 0, none⟩) 1 1]).run Try.prog (wr.alloc (.cells #[.int .i64 (at_ + (j : Int))] 3)) = .ok (.slice a6 (j + 1) cp6) w6) := R6.out
      go_wp2_with (at_builtin; refine wpList_append_run rfl _ _ _ _ rfl R6'.out ?_)
      go_roundw
      case rel => exact ⟨j + 1, a6, cp6, by omega, by go_num, rfl, G6.out, B6.out⟩
      case measure => simp [intOf]; omega
    · obtain rfl : j = m := by omega
      obtain ⟨a7, cp7, e7, rg7⟩ := GK.out.rg
      rw [List.take_of_length_le (by rw [BL.out]; exact Nat.le_refl _), BL.out] at e7
      rw [List.take_of_length_le (by rw [BL.out]; exact Nat.le_refl _), BL.out] at rg7
      cases e7
      have RG := Lib.hid rg7
      clear rg7
      go_wp2_with fail
      go_ret
      refine ⟨a, cp, ?_, ?_, thence B0.out HB.out (Nat.le_refl _)⟩
      · rw [BL.out]; rfl
      · rw [BL.out]; exact RG.out

/-! ### Whether a block is in both lists -/
/-- How often x is one of m numbers from a on. -/
def spc (a : Int) (m : Nat) (x : Int) : Int := if QK.inn x a m = true then 1 else 0
theorem spc_bd (a : Int) (m : Nat) (x : Int) : 0 ≤ spc a m x ∧ spc a m x ≤ 1 := by unfold spc; split <;> omega
theorem spc_step (a : Int) (k : Nat) (x : Int) : spc a (k + 1) x = if x = a + (k : Int) then spc a k (a + (k : Int)) + 1 else spc a k x := by
  have h0 : QK.inn (a + (k : Int)) a k = false := by
    rw [Bool.eq_false_iff]
    intro h
    have := QK.inn_iff.1 h
    omega
  by_cases h : x = a + (k : Int)
  · subst h
    rw [if_pos rfl]
    unfold spc
    rw [h0, show QK.inn (a + (k : Int)) a (k + 1) = true by unfold QK.inn; simp]
    rfl
  · rw [if_neg h]
    unfold spc
    rw [show QK.inn x a (k + 1) = QK.inn x a k by rw [QK.inn, beq_eq_false_iff_ne.2 h, Bool.or_false]]
/-- A map reads as f. -/
def Cnt (f : Int → Int) (D : DataW Unit) : Prop := IsMap D ∧ ∀ x : Int, D.atKey (.int .i64 x) (.lit (.int .i64 0)) = .lit (.int .i64 (f x))
theorem Cnt.empty : Cnt (fun _ => 0) (.map []) := ⟨isMap_empty, fun _ => rfl⟩
theorem Cnt.put {f g : Int → Int} {D : DataW Unit} (h : Cnt f D) (y c : Int) (hg : ∀ x, g x = if x = y then c else f x) : Cnt g (D.put (.int .i64 y) (.lit (.int .i64 c))) := by
  refine ⟨h.1.put _ _, fun x => ?_⟩
  rw [hg x]
  by_cases e : x = y
  · subst e
    rw [if_pos rfl, atKey_put_same h.1 (by simp [WideAt.IsKeyLit])]
  · rw [if_neg e, atKey_put_other (fun q => e (by injection q)), h.2 x]
def CntAt (w : World) (b n : Nat) (f : Int → Int) : Prop := ∃ D, w.ownsMap Try.prog 3 (plainElem Try.prog 3) b n D ∧ Cnt f D
theorem spKey : Keyed Try.prog 3 := int_keyed Try.underlying3
theorem spZero (w : World) : (zeroValue 3).run Try.prog w = .ok (.int .i64 0) w := by kernel_rfl

set_option maxHeartbeats 2000000 in
theorem spMeet_any (a b : Int) (m m' : Nat) (xa : Option Addr) (xc : Nat) (ya : Option Addr) (yc : Nat) (w : World) (hx : Rg kInt 0 w.heap.size w xa m xc (QK.blks a (m : Int))) (hy : Rg kInt 0 w.heap.size w ya m' yc (QK.blks b (m' : Int))) (h0 : 0 ≤ a ∧ a ≤ 960) (h1 : 0 ≤ b ∧ b ≤ 960) (h2 : m ≤ 8) (h3 : m' ≤ 8) :
    Calls Try.prog 24 #[.slice xa m xc, .slice ya m' yc] w fun e w' => e = .returned (.bool (QK.met b a m m')) ∧ Below w.heap.size w w' := by
  have hmm := @run_makeMap Try.prog
  obtain ⟨x0, x1⟩ := h0
  obtain ⟨z0, z1⟩ := h1
  have HX := Lib.hid hx
  have HY := Lib.hid hy
  have LX : Hid ((QK.blks a (m : Int)).length = m) := spBlks.1
  have LY : Hid ((QK.blks b (m' : Int)).length = m') := spBlks.1
  have GX : Hid (∀ i, i < m → (QK.blks a (m : Int)).getD i 0 = a + (i : Int)) := fun i hi => QK.blks_get (by simpa using hi)
  have GY : Hid (∀ i, i < m' → (QK.blks b (m' : Int)).getD i 0 = b + (i : Int)) := fun i hi => QK.blks_get (by simpa using hi)
  clear hx hy
  go_enter Try.func24, Try.ntmps24
  go_wp2_with fail
  go_loopw [13] (fun i wr => ∃ k : Nat, k ≤ m ∧ i = .int .i64 (k : Int) ∧ CntAt wr w.heap.size k (spc a k) ∧ Below w.heap.size w wr)
    (fun i _ => m - (intOf i).toNat)
  case atStart => exact ⟨0, Nat.zero_le _, rfl, ⟨_, World.ownsMap_made _ _ _ _, isMap_empty, fun _ => rfl⟩, (Below.refl _ _).alloc (Nat.le_refl _) _⟩
  case round =>
    obtain ⟨k, hk, rfl, ⟨D, hown, hcnt⟩, hnx⟩ := hrel
    by_cases hlt : k < m
    · obtain ⟨g, off, rfl, -, hgb⟩ := HX.out.addr (by rw [LX.out]; omega)
      have hcx : wr.cell? ⟨g, off + k, none⟩ = some (.int .i64 (a + (k : Int))) := by
        have := HX.out.num (k := k) (by rw [LX.out]; exact hlt)
        rw [GX.out k hlt] at this
        exact (hnx.cell (by exact hgb)).trans this
      have hkey : keyOf Try.prog 3 (.int .i64 (a + (k : Int))) = some (.int .i64 (a + (k : Int))) := keyOf_int_mk Try.underlying3 (WalkArith.wf_i64 (by omega))
      have hbd := spc_bd a k (a + (k : Int))
      obtain ⟨hbd0, hbd1⟩ := hbd
      have CN := Lib.hid hcnt
      go_wp2_with (first
        | (at_lookup; refine wpList_lookup_own_int _ rfl _ _ 63 rfl 3 3 .i64 spKey Try.underlying63 Try.underlying3 (spZero _) w.heap.size k _ rfl hown _ _ rfl hkey ?_; intro c hat hwc; have hc : c = spc a k (a + (k : Int)) := (by have hz := hat; rw [CN.out.2] at hz; injection hz with hz; injection hz with hz1 hz2; exact hz2.symm); subst hc)
        | (at_mapUpdate; refine wpList_mapUpdate_own _ rfl _ _ _ 63 rfl 3 3 spKey Try.underlying63 _ w.heap.size k _ rfl hown (by unfold maxLen; omega) _ _ _ rfl rfl hkey _ [] (plainElem_int Try.underlying3 (WalkArith.wf_i64 (by omega))) ?_; intro w1 hown1 hgrow1)
        | go_in)
      go_roundw
      case rel => exact ⟨k + 1, by omega, by go_num, ⟨_, hown1, CN.out.put _ _ (fun x => by rw [spc_step]; try rfl)⟩, hnx.grown hgrow1 hnx.size (fun j hj => by cases hj; exact Nat.le_refl _)⟩
      case measure => simp [intOf]; omega
    · obtain rfl : k = m := by omega
      have C0 := Lib.hid hcnt
      have O0 := Lib.hid hown
      clear hcnt hown
      go_wp2_with fail
      go_loopw [24] (fun i wr => ∃ j : Nat, j ≤ m' ∧ i = .int .i64 (j : Int) ∧ CntAt wr w.heap.size (k + j) (fun x => spc a k x + spc b j x) ∧ QK.met b a k j = false ∧ Below w.heap.size w wr)
        (fun i _ => m' - (intOf i).toNat)
      case atStart => exact ⟨0, Nat.zero_le _, rfl, ⟨D, O0.out, by
        have hz : (fun x => spc a k x + spc b 0 x) = spc a k := funext fun x => by simp [spc, QK.inn]
        rw [hz]; exact C0.out⟩, rfl, hnx⟩
      case round =>
        clear O0 C0 hnx D
        obtain ⟨j, hj, rfl, ⟨D, hown, hcnt⟩, hmet, hnx⟩ := hrel
        have HM := Lib.hid hmet
        clear hmet
        by_cases hlt' : j < m'
        · obtain ⟨g, off, rfl, -, hgb⟩ := HY.out.addr (by rw [LY.out]; omega)
          have hcx : wr.cell? ⟨g, off + j, none⟩ = some (.int .i64 (b + (j : Int))) := by
            have := HY.out.num (k := j) (by rw [LY.out]; exact hlt')
            rw [GY.out j hlt'] at this
            exact (hnx.cell (by exact hgb)).trans this
          have hkey : keyOf Try.prog 3 (.int .i64 (b + (j : Int))) = some (.int .i64 (b + (j : Int))) := keyOf_int_mk Try.underlying3 (WalkArith.wf_i64 (by omega))
          have CN := Lib.hid hcnt
          clear hcnt
          have h00 : spc b j (b + (j : Int)) = 0 := by
            unfold spc
            rw [if_neg]
            intro h
            have := QK.inn_iff.1 h
            omega
          cases hin : QK.inn (b + (j : Int)) a k with
          | true =>
            have hca : spc a k (b + (j : Int)) = 1 := by unfold spc; rw [hin]; rfl
            have HC : Hid (spc a k (b + (j : Int)) + spc b j (b + (j : Int)) = 1) := by show _ = _; rw [h00, hca]; rfl
            have HS : Hid (∀ x, spc a k x + spc b (j + 1) x = if x = b + (j : Int) then 2 else spc a k x + spc b j x) := fun x => by
              show _ = _
              rw [spc_step]
              by_cases e : x = b + (j : Int)
              · subst e; rw [if_pos rfl, if_pos rfl, h00, hca]; rfl
              · rw [if_neg e, if_neg e]
            have HS2 : Hid (spc a k (b + (j : Int)) + spc b (j + 1) (b + (j : Int)) = 2) := by show _ = _; rw [HS.out, if_pos rfl]
            have HR : Hid (QK.met b a k m' = true) := by
              show _ = _
              have h := QK.inn_iff.1 hin
              exact QK.met_iff.2 ⟨j, hlt', h.1, h.2⟩
            clear hca h00 hin
            go_wp2_with (first
              | (at_lookup; refine wpList_lookup_own_int _ rfl _ _ 63 rfl 3 3 .i64 spKey Try.underlying63 Try.underlying3 (spZero _) w.heap.size _ _ rfl hown1 _ _ rfl hkey ?_; intro c hat hwc; have hc : c = (2 : Int) := (by have hz := hat; have hq := C1.out.2 (b + (j : Int)); dsimp only at hq; rw [hq, HS2.out] at hz; injection hz with hz; injection hz with hz1 hz2; exact hz2.symm); clear hat; subst hc)
              | (at_lookup; refine wpList_lookup_own_int _ rfl _ _ 63 rfl 3 3 .i64 spKey Try.underlying63 Try.underlying3 (spZero _) w.heap.size _ _ rfl hown _ _ rfl hkey ?_; intro c hat hwc; have hc : c = (1 : Int) := (by have hz := hat; have hq := CN.out.2 (b + (j : Int)); dsimp only at hq; rw [hq, HC.out] at hz; injection hz with hz; injection hz with hz1 hz2; exact hz2.symm); clear hat; subst hc)
              | (at_mapUpdate; refine wpList_mapUpdate_own _ rfl _ _ _ 63 rfl 3 3 spKey Try.underlying63 _ w.heap.size _ _ rfl hown (by unfold maxLen; omega) _ _ _ rfl rfl hkey (.lit (.int .i64 2)) [] (plainElem_int Try.underlying3 (WalkArith.wf_i64 (by omega))) ?_; intro w1 hown1 hgrow1; have C1 := Lib.hid (CN.out.put (g := fun x => spc a k x + spc b (j + 1) x) (b + (j : Int)) 2 HS.out))
              | go_in)
            go_ret
            exact ⟨by rw [HR.out]; rfl, hnx.grown hgrow1 hnx.size (fun j hj => by cases hj; exact Nat.le_refl _)⟩
          | false =>
            have hca : spc a k (b + (j : Int)) = 0 := by unfold spc; rw [hin]; rfl
            have HC : Hid (spc a k (b + (j : Int)) + spc b j (b + (j : Int)) = 0) := by show _ = _; rw [h00, hca]; rfl
            have HS : Hid (∀ x, spc a k x + spc b (j + 1) x = if x = b + (j : Int) then 1 else spc a k x + spc b j x) := fun x => by
              show _ = _
              rw [spc_step]
              by_cases e : x = b + (j : Int)
              · subst e; rw [if_pos rfl, if_pos rfl, h00, hca]; rfl
              · rw [if_neg e, if_neg e]
            have HS2 : Hid (spc a k (b + (j : Int)) + spc b (j + 1) (b + (j : Int)) = 1) := by show _ = _; rw [HS.out, if_pos rfl]
            have HN : Hid (QK.met b a k (j + 1) = false) := by show _ = _; rw [QK.met, HM.out, hin]; rfl
            clear hca h00 hin
            go_wp2_with (first
              | (at_lookup; refine wpList_lookup_own_int _ rfl _ _ 63 rfl 3 3 .i64 spKey Try.underlying63 Try.underlying3 (spZero _) w.heap.size _ _ rfl hown1 _ _ rfl hkey ?_; intro c hat hwc; have hc : c = (1 : Int) := (by have hz := hat; have hq := C1.out.2 (b + (j : Int)); dsimp only at hq; rw [hq, HS2.out] at hz; injection hz with hz; injection hz with hz1 hz2; exact hz2.symm); clear hat; subst hc)
              | (at_lookup; refine wpList_lookup_own_int _ rfl _ _ 63 rfl 3 3 .i64 spKey Try.underlying63 Try.underlying3 (spZero _) w.heap.size _ _ rfl hown _ _ rfl hkey ?_; intro c hat hwc; have hc : c = (0 : Int) := (by have hz := hat; have hq := CN.out.2 (b + (j : Int)); dsimp only at hq; rw [hq, HC.out] at hz; injection hz with hz; injection hz with hz1 hz2; exact hz2.symm); clear hat; subst hc)
              | (at_mapUpdate; refine wpList_mapUpdate_own _ rfl _ _ _ 63 rfl 3 3 spKey Try.underlying63 _ w.heap.size _ _ rfl hown (by unfold maxLen; omega) _ _ _ rfl rfl hkey (.lit (.int .i64 1)) [] (plainElem_int Try.underlying3 (WalkArith.wf_i64 (by omega))) ?_; intro w1 hown1 hgrow1; have C1 := Lib.hid (CN.out.put (g := fun x => spc a k x + spc b (j + 1) x) (b + (j : Int)) 1 HS.out))
              | go_in)
            go_roundw
            case rel => exact ⟨j + 1, by omega, by go_num, ⟨_, hown1, C1.out⟩, HN.out, hnx.grown hgrow1 hnx.size (fun j hj => by cases hj; exact Nat.le_refl _)⟩
            case measure => simp [intOf]; omega
        · obtain rfl : j = m' := by omega
          go_wp2_with fail
          go_ret
          exact ⟨by rw [HM.out]; rfl, hnx⟩

set_option maxHeartbeats 2000000 in
theorem spCheck_any (id : Nat) (mem chunk rows log heads : Int) (k : Nat) (at_ many : Int) (da : Option Addr) (dn dc : Nat) (w : World) :
    Calls Try.prog 13 #[.agg #[.int .u32 (id : Int), .int .i64 mem, .int .i64 chunk, .int .i64 rows, .int .i64 log, .int .i64 heads], .agg #[.int .u8 (k : Int), .int .i64 at_, .int .i64 many, .slice da dn dc]] w fun e w' => e = .returned (.int .i64 ((QK.code ⟨id, mem, chunk, rows, log, heads⟩ k at_ many dn : Nat) : Int)) ∧ Below w.heap.size w w' := by
  have ha1 : Below w.heap.size w (w.alloc (.cells #[.int .u32 (id : Int), .int .i64 mem, .int .i64 chunk, .int .i64 rows, .int .i64 log, .int .i64 heads] 24)) := (Below.refl _ _).alloc (Nat.le_refl _) _
  have ha2 : Below (w.alloc (.cells #[.int .u32 (id : Int), .int .i64 mem, .int .i64 chunk, .int .i64 rows, .int .i64 log, .int .i64 heads] 24)).heap.size (w.alloc (.cells #[.int .u32 (id : Int), .int .i64 mem, .int .i64 chunk, .int .i64 rows, .int .i64 log, .int .i64 heads] 24)) ((w.alloc (.cells #[.int .u32 (id : Int), .int .i64 mem, .int .i64 chunk, .int .i64 rows, .int .i64 log, .int .i64 heads] 24)).alloc (.cells #[.int .u8 (k : Int), .int .i64 at_, .int .i64 many, .slice da dn dc] 32)) := (Below.refl _ _).alloc (Nat.le_refl _) _
  have B0 : Hid (Below w.heap.size w ((w.alloc (.cells #[.int .u32 (id : Int), .int .i64 mem, .int .i64 chunk, .int .i64 rows, .int .i64 log, .int .i64 heads] 24)).alloc (.cells #[.int .u8 (k : Int), .int .i64 at_, .int .i64 many, .slice da dn dc] 32))) := thence (ha1) ha2 (Nat.le_refl _)
  have BX : Hid (Bx ((w.alloc (.cells #[.int .u32 (id : Int), .int .i64 mem, .int .i64 chunk, .int .i64 rows, .int .i64 log, .int .i64 heads] 24)).alloc (.cells #[.int .u8 (k : Int), .int .i64 at_, .int .i64 many, .slice da dn dc] 32)) (w.heap.size) [.int .u32 (id : Int), .int .i64 mem, .int .i64 chunk, .int .i64 rows, .int .i64 log, .int .i64 heads]) := ((Bx.new w [.int .u32 (id : Int), .int .i64 mem, .int .i64 chunk, .int .i64 rows, .int .i64 log, .int .i64 heads] 24)).here ha2
  have BY : Hid (Bx ((w.alloc (.cells #[.int .u32 (id : Int), .int .i64 mem, .int .i64 chunk, .int .i64 rows, .int .i64 log, .int .i64 heads] 24)).alloc (.cells #[.int .u8 (k : Int), .int .i64 at_, .int .i64 many, .slice da dn dc] 32)) (w.heap.size + 1) [.int .u8 (k : Int), .int .i64 at_, .int .i64 many, .slice da dn dc]) := by
    have h := (Bx.new (w.alloc (.cells #[.int .u32 (id : Int), .int .i64 mem, .int .i64 chunk, .int .i64 rows, .int .i64 log, .int .i64 heads] 24)) [.int .u8 (k : Int), .int .i64 at_, .int .i64 many, .slice da dn dc] 32)
    have e : (w.alloc (.cells #[.int .u32 (id : Int), .int .i64 mem, .int .i64 chunk, .int .i64 rows, .int .i64 log, .int .i64 heads] 24)).heap.size = w.heap.size + 1 := by simp
    rw [e] at h
    exact h
  clear ha1 ha2
  have CS := Lib.hid (shBlocks_is id mem chunk rows log heads)
  have CK := Lib.hid (spKindOf_any k)
  cases hm : Cfg.may ⟨id, mem, chunk, rows, log, heads⟩ with
  | false =>
    have hq : Cfg.code ⟨id, mem, chunk, rows, log, heads⟩ = 8 := by unfold Cfg.code; rw [hm]; rfl
    have hv : QK.code ⟨id, mem, chunk, rows, log, heads⟩ k at_ many dn = 8 := by unfold QK.code; rw [hm]; rfl
    rw [hv]
    rw [hm, hq] at CS
    have CB : Hid (∀ w1, Calls Try.prog 20 #[.agg #[.int .u32 (id : Int), .int .i64 mem, .int .i64 chunk, .int .i64 rows, .int .i64 log, .int .i64 heads]] w1 fun e w' => e = .returned (.tuple #[.int .i64 (0), .int .i64 (8)]) ∧ Below w1.heap.size w1 w') := CS
    clear CS hm hq hv
    go_enter Try.func13, Try.ntmps13
    go_wp2_with fail
    (with_reducible refine (CB.out _).mono ?_)
    rintro e w1 ⟨rfl, b1⟩
    replace BX := Lib.hid (BX.out.here b1)
    replace BY := Lib.hid (BY.out.here b1)
    have B1 := Lib.hid (thence B0.out b1 (Nat.le_refl _))
    clear b1 B0
    obtain ⟨c0, c1, c2, c3, c4, c5⟩ := BX.out.six
    have ltBX := BX.out.lt
    obtain ⟨y0, y1, y2, y3⟩ := BY.out.four
    have ltBY := BY.out.lt
    go_wp2_with fail
    go_ret
    exact ⟨rfl, B1.out⟩
  | true =>
    have hq : Cfg.code ⟨id, mem, chunk, rows, log, heads⟩ = 0 := by unfold Cfg.code; rw [hm]; rfl
    have hb := SK.blocks_bd (SK.may_iff.1 hm)
    rw [hm, hq] at CS
    have CB : Hid (∀ w1, Calls Try.prog 20 #[.agg #[.int .u32 (id : Int), .int .i64 mem, .int .i64 chunk, .int .i64 rows, .int .i64 log, .int .i64 heads]] w1 fun e w' => e = .returned (.tuple #[.int .i64 (chunk * rows * (mem - 1)), .int .i64 (0)]) ∧ Below w1.heap.size w1 w') := CS
    clear CS hq
    have hbl : chunk * rows * (mem - 1) = Cfg.blocks ⟨id, mem, chunk, rows, log, heads⟩ := rfl
    rw [hbl] at CB
    obtain ⟨hb0, hb1⟩ := hb
    cases hk : spOk k with
    | false =>
      have hv : QK.code ⟨id, mem, chunk, rows, log, heads⟩ k at_ many dn = 2 := by unfold QK.code; rw [if_pos hm, if_neg (by rw [spOk_no hk]; simp)]
      rw [hv]
      rw [hk] at CK
      clear hk hm hbl hv
      generalize Cfg.blocks ⟨id, mem, chunk, rows, log, heads⟩ = n at *
      generalize spBl k = x0 at *
      generalize QK.bts k = x1 at *
      generalize QK.wr k = x2 at *
      go_enter Try.func13, Try.ntmps13
      go_wp2_with fail
      (with_reducible refine (CB.out _).mono ?_)
      rintro e w1 ⟨rfl, b1⟩
      replace BX := Lib.hid (BX.out.here b1)
      replace BY := Lib.hid (BY.out.here b1)
      have B1 := Lib.hid (thence B0.out b1 (Nat.le_refl _))
      clear b1 B0
      obtain ⟨c0, c1, c2, c3, c4, c5⟩ := BX.out.six
      have ltBX := BX.out.lt
      obtain ⟨y0, y1, y2, y3⟩ := BY.out.four
      have ltBY := BY.out.lt
      go_wp2_with fail
      (with_reducible refine (CK.out _).mono ?_)
      rintro e w2 ⟨rfl, b2⟩
      clear c0 c1 c2 c3 c4 c5 y0 y1 y2 y3 ltBX ltBY
      replace BX := Lib.hid (BX.out.here b2)
      replace BY := Lib.hid (BY.out.here b2)
      have ha2 : Below w2.heap.size w2 (w2.alloc (.cells #[.bool x0, .bool x1, .bool x2] 55)) := (Below.refl _ _).alloc (Nat.le_refl _) _
      replace BX := Lib.hid (BX.out.here ha2)
      replace BY := Lib.hid (BY.out.here ha2)
      have BK : Hid (Bx (w2.alloc (.cells #[.bool x0, .bool x1, .bool x2] 55)) w2.heap.size [.bool x0, .bool x1, .bool x2]) := Bx.new w2 [.bool x0, .bool x1, .bool x2] 55
      have B2 := Lib.hid (thence B1.out (thence b2 ha2 (Nat.le_refl _)) (Nat.le_refl _))
      clear ha2
      clear b2 B1
      obtain ⟨c0, c1, c2, c3, c4, c5⟩ := BX.out.six
      have ltBX := BX.out.lt
      obtain ⟨y0, y1, y2, y3⟩ := BY.out.four
      have ltBY := BY.out.lt
      obtain ⟨k0, k1, k2⟩ := BK.out.three
      have ltBK := BK.out.lt
      go_wp2_with fail
      go_ret
      exact ⟨rfl, B2.out⟩
    | true =>
      have hpl := plc_is (c := ⟨id, mem, chunk, rows, log, heads⟩) (k := k) (at_ := at_) (many := many) hk
      cases hp : QK.placed ⟨id, mem, chunk, rows, log, heads⟩ k at_ many with
      | false =>
        have hv : QK.code ⟨id, mem, chunk, rows, log, heads⟩ k at_ many dn = 2 := by unfold QK.code; rw [if_pos hm, if_neg (by rw [hp]; simp)]
        rw [hv]
        have CP := Lib.hid (fun w1 => spPlaced_any (spBl k) (QK.bts k) (QK.wr k) k at_ many da dn dc (Cfg.blocks ⟨id, mem, chunk, rows, log, heads⟩) w1 ⟨by omega, by omega⟩)
        rw [hpl, hp] at CP
        rw [hk] at CK
        clear hk hm hbl hv hpl hp
        generalize Cfg.blocks ⟨id, mem, chunk, rows, log, heads⟩ = n at *
        generalize spBl k = x0 at *
        generalize QK.bts k = x1 at *
        generalize QK.wr k = x2 at *
        go_enter Try.func13, Try.ntmps13
        go_wp2_with fail
        (with_reducible refine (CB.out _).mono ?_)
        rintro e w1 ⟨rfl, b1⟩
        replace BX := Lib.hid (BX.out.here b1)
        replace BY := Lib.hid (BY.out.here b1)
        have B1 := Lib.hid (thence B0.out b1 (Nat.le_refl _))
        clear b1 B0
        obtain ⟨c0, c1, c2, c3, c4, c5⟩ := BX.out.six
        have ltBX := BX.out.lt
        obtain ⟨y0, y1, y2, y3⟩ := BY.out.four
        have ltBY := BY.out.lt
        go_wp2_with fail
        (with_reducible refine (CK.out _).mono ?_)
        rintro e w2 ⟨rfl, b2⟩
        clear c0 c1 c2 c3 c4 c5 y0 y1 y2 y3 ltBX ltBY
        replace BX := Lib.hid (BX.out.here b2)
        replace BY := Lib.hid (BY.out.here b2)
        have ha2 : Below w2.heap.size w2 (w2.alloc (.cells #[.bool x0, .bool x1, .bool x2] 55)) := (Below.refl _ _).alloc (Nat.le_refl _) _
        replace BX := Lib.hid (BX.out.here ha2)
        replace BY := Lib.hid (BY.out.here ha2)
        have BK : Hid (Bx (w2.alloc (.cells #[.bool x0, .bool x1, .bool x2] 55)) w2.heap.size [.bool x0, .bool x1, .bool x2]) := Bx.new w2 [.bool x0, .bool x1, .bool x2] 55
        have B2 := Lib.hid (thence B1.out (thence b2 ha2 (Nat.le_refl _)) (Nat.le_refl _))
        clear ha2
        clear b2 B1
        obtain ⟨c0, c1, c2, c3, c4, c5⟩ := BX.out.six
        have ltBX := BX.out.lt
        obtain ⟨y0, y1, y2, y3⟩ := BY.out.four
        have ltBY := BY.out.lt
        obtain ⟨k0, k1, k2⟩ := BK.out.three
        have ltBK := BK.out.lt
        go_wp2_with fail
        (with_reducible refine (CP.out _).mono ?_)
        rintro e w3 ⟨rfl, b3⟩
        clear c0 c1 c2 c3 c4 c5 y0 y1 y2 y3 k0 k1 k2 ltBX ltBY ltBK
        replace BX := Lib.hid (BX.out.here b3)
        replace BY := Lib.hid (BY.out.here b3)
        replace BK := Lib.hid (BK.out.here b3)
        have B3 := Lib.hid (thence B2.out b3 (Nat.le_refl _))
        clear b3 B2
        obtain ⟨c0, c1, c2, c3, c4, c5⟩ := BX.out.six
        have ltBX := BX.out.lt
        obtain ⟨y0, y1, y2, y3⟩ := BY.out.four
        have ltBY := BY.out.lt
        obtain ⟨k0, k1, k2⟩ := BK.out.three
        have ltBK := BK.out.lt
        go_wp2_with fail
        go_ret
        exact ⟨rfl, B3.out⟩
      | true =>
        have hpp := QK.placed_iff.1 hp
        have hmb := QK.placed_bd (SK.may_iff.1 hm) hpp
        obtain ⟨-, -, hm0, hm1, -, -⟩ := hmb
        have hne : (if QK.bts k = true then many * 128 else 0) = QK.need k many := rfl
        have CP := Lib.hid (fun w1 => spPlaced_any (spBl k) (QK.bts k) (QK.wr k) k at_ many da dn dc (Cfg.blocks ⟨id, mem, chunk, rows, log, heads⟩) w1 ⟨by omega, by omega⟩)
        have CY := Lib.hid (fun w1 => spBytes_any (spBl k) (QK.bts k) (QK.wr k) k at_ many da dn dc w1 ⟨hm0, hm1⟩)
        rw [hpl, hp] at CP
        rw [hk] at CK
        rw [hne] at CY
        have hv : QK.code ⟨id, mem, chunk, rows, log, heads⟩ k at_ many dn = if (dn : Int) = QK.need k many then 0 else 3 := by unfold QK.code; rw [if_pos hm, if_pos hp]
        rw [hv]
        clear hk hm hbl hv hpl hp hpp hne
        generalize Cfg.blocks ⟨id, mem, chunk, rows, log, heads⟩ = n at *
        generalize spBl k = x0 at *
        generalize QK.bts k = x1 at *
        generalize QK.wr k = x2 at *
        generalize QK.need k many = nd at *
        by_cases hd : (dn : Int) = nd
        · rw [if_pos hd]
          have u0 : ((dn : Int) != nd) = false := by rw [hd]; simp
          clear hd
          go_enter Try.func13, Try.ntmps13
          go_wp2_with fail
          (with_reducible refine (CB.out _).mono ?_)
          rintro e w1 ⟨rfl, b1⟩
          replace BX := Lib.hid (BX.out.here b1)
          replace BY := Lib.hid (BY.out.here b1)
          have B1 := Lib.hid (thence B0.out b1 (Nat.le_refl _))
          clear b1 B0
          obtain ⟨c0, c1, c2, c3, c4, c5⟩ := BX.out.six
          have ltBX := BX.out.lt
          obtain ⟨y0, y1, y2, y3⟩ := BY.out.four
          have ltBY := BY.out.lt
          go_wp2_with fail
          (with_reducible refine (CK.out _).mono ?_)
          rintro e w2 ⟨rfl, b2⟩
          clear c0 c1 c2 c3 c4 c5 y0 y1 y2 y3 ltBX ltBY
          replace BX := Lib.hid (BX.out.here b2)
          replace BY := Lib.hid (BY.out.here b2)
          have ha2 : Below w2.heap.size w2 (w2.alloc (.cells #[.bool x0, .bool x1, .bool x2] 55)) := (Below.refl _ _).alloc (Nat.le_refl _) _
          replace BX := Lib.hid (BX.out.here ha2)
          replace BY := Lib.hid (BY.out.here ha2)
          have BK : Hid (Bx (w2.alloc (.cells #[.bool x0, .bool x1, .bool x2] 55)) w2.heap.size [.bool x0, .bool x1, .bool x2]) := Bx.new w2 [.bool x0, .bool x1, .bool x2] 55
          have B2 := Lib.hid (thence B1.out (thence b2 ha2 (Nat.le_refl _)) (Nat.le_refl _))
          clear ha2
          clear b2 B1
          obtain ⟨c0, c1, c2, c3, c4, c5⟩ := BX.out.six
          have ltBX := BX.out.lt
          obtain ⟨y0, y1, y2, y3⟩ := BY.out.four
          have ltBY := BY.out.lt
          obtain ⟨k0, k1, k2⟩ := BK.out.three
          have ltBK := BK.out.lt
          go_wp2_with fail
          (with_reducible refine (CP.out _).mono ?_)
          rintro e w3 ⟨rfl, b3⟩
          clear c0 c1 c2 c3 c4 c5 y0 y1 y2 y3 k0 k1 k2 ltBX ltBY ltBK
          replace BX := Lib.hid (BX.out.here b3)
          replace BY := Lib.hid (BY.out.here b3)
          replace BK := Lib.hid (BK.out.here b3)
          have B3 := Lib.hid (thence B2.out b3 (Nat.le_refl _))
          clear b3 B2
          obtain ⟨c0, c1, c2, c3, c4, c5⟩ := BX.out.six
          have ltBX := BX.out.lt
          obtain ⟨y0, y1, y2, y3⟩ := BY.out.four
          have ltBY := BY.out.lt
          obtain ⟨k0, k1, k2⟩ := BK.out.three
          have ltBK := BK.out.lt
          go_wp2_with fail
          refine wp_region_noPanic ?_
          refine PX.wp_region_y (fun w' => Below w3.heap.size w3 w') [] (by kernel_rfl) (Below.refl _ _).drew (fun hHeld => ?_)
          refine PX.wpAnyY_take (i := 0) (oi := ?_) (v := ?_) ?_ (by kernel_rfl) (by kernel_rfl) (by kernel_rfl) (by kernel_rfl) (by kernel_rfl) (fun _ _ _ h => h) (Or.inl ⟨?_, ?_⟩) (by assumption) ?_
          rotate_left 2
          · simp only [List.getElem?_toArray, List.getElem?_cons_succ, List.getElem?_cons_zero]; rfl
          · rfl
          · intro w hSw; (try dsimp only at hSw); go_simp <;> with_reducible rfl
          (try simp only [Act.put, List.setIfInBounds_toArray, List.set_cons_zero, List.set_cons_succ])
          refine PX.wpAnyY_take (i := 1) (oi := ?_) (v := ?_) ?_ (by kernel_rfl) (by kernel_rfl) (by kernel_rfl) (by kernel_rfl) (by kernel_rfl) (fun _ _ _ h => h) (Or.inl ⟨?_, ?_⟩) (by assumption) ?_
          rotate_left 2
          · simp only [List.getElem?_toArray, List.getElem?_cons_succ, List.getElem?_cons_zero]; rfl
          · rfl
          · intro w hSw; (try dsimp only at hSw); have hC := fun (b o : Nat) (h : b < w3.heap.size) => Below.cell hSw (p := ⟨b, o, none⟩) h; go_simp <;> with_reducible rfl
          (try simp only [Act.put, List.setIfInBounds_toArray, List.set_cons_zero, List.set_cons_succ])
          refine PX.wpAnyY_take (i := 2) (oi := ?_) (v := ?_) ?_ (by kernel_rfl) (by kernel_rfl) (by kernel_rfl) (by kernel_rfl) (by kernel_rfl) (fun _ _ _ h => h) (Or.inl ⟨?_, ?_⟩) (by assumption) ?_
          rotate_left 2
          · simp only [List.getElem?_toArray, List.getElem?_cons_succ, List.getElem?_cons_zero]; rfl
          · rfl
          · intro w hSw; (try dsimp only at hSw); go_simp <;> with_reducible rfl
          (try simp only [Act.put, List.setIfInBounds_toArray, List.set_cons_zero, List.set_cons_succ])
          refine PX.wpAnyY_take (i := 3) (oi := ?_) (v := ?_) ?_ (by kernel_rfl) (by kernel_rfl) (by kernel_rfl) (by kernel_rfl) (by kernel_rfl) (fun _ _ _ h => h) (Or.inl ⟨?_, ?_⟩) (by assumption) ?_
          rotate_left 2
          · simp only [List.getElem?_toArray, List.getElem?_cons_succ, List.getElem?_cons_zero]; rfl
          · rfl
          · intro w hSw; (try dsimp only at hSw); have hC := fun (b o : Nat) (h : b < w3.heap.size) => Below.cell hSw (p := ⟨b, o, none⟩) h; go_simp <;> with_reducible rfl
          (try simp only [Act.put, List.setIfInBounds_toArray, List.set_cons_zero, List.set_cons_succ])
          refine PX.wpAnyY_take (i := 4) (oi := ?_) (v := ?_) ?_ (by kernel_rfl) (by kernel_rfl) (by kernel_rfl) (by kernel_rfl) (by kernel_rfl) (fun _ _ _ h => h) (Or.inl ⟨?_, ?_⟩) (by assumption) ?_
          rotate_left 2
          · simp only [List.getElem?_toArray, List.getElem?_cons_succ, List.getElem?_cons_zero]; rfl
          · rfl
          · intro w hSw; (try dsimp only at hSw); have hC := fun (b o : Nat) (h : b < w3.heap.size) => Below.cell hSw (p := ⟨b, o, none⟩) h; go_simp <;> with_reducible rfl
          (try simp only [Act.put, List.setIfInBounds_toArray, List.set_cons_zero, List.set_cons_succ])
          refine PX.wpAnyY_one (i := 5) (o := ?_) (by kernel_rfl) ?_ (fun Kq hKq => ?_)
          rotate_left
          · simp only [List.getElem?_toArray, List.getElem?_cons_succ, List.getElem?_cons_zero]; rfl
          go_simp
          (with_reducible refine (CY.out _).mono ?_)
          rintro e w4 ⟨rfl, bqw4⟩
          have Hw4 := Lib.hid (thence hHeld bqw4 (Nat.le_refl _))
          clear bqw4
          go_wp2_with fail
          refine hKq.out _ _ (Hw4.out) (fun hHeld => ?_)
          clear hKq Kq
          (try simp only [Act.put, List.setIfInBounds_toArray, List.set_cons_zero, List.set_cons_succ])
          refine PX.wpAnyY_one (i := 6) (o := ?_) (by kernel_rfl) ?_ (fun Kq hKq => ?_)
          rotate_left
          · simp only [List.getElem?_toArray, List.getElem?_cons_succ, List.getElem?_cons_zero]; rfl
          go_simp
          refine hKq.out _ _ (hHeld) (fun hHeld => ?_)
          clear hKq Kq
          (try simp only [Act.put, List.setIfInBounds_toArray, List.set_cons_zero, List.set_cons_succ])
          refine PX.wpAnyY_done (by kernel_rfl) ?_ _
          refine NoPanic.normal ?_
          have HE := Lib.hid (thence B3.out Hw4.out (Nat.le_refl _))
          clear hHeld
          go_wp2_with fail
          go_ret
          exact ⟨rfl, HE.out⟩
        · rw [if_neg hd]
          have u0 : ((dn : Int) != nd) = true := by simpa using hd
          clear hd
          go_enter Try.func13, Try.ntmps13
          go_wp2_with fail
          (with_reducible refine (CB.out _).mono ?_)
          rintro e w1 ⟨rfl, b1⟩
          replace BX := Lib.hid (BX.out.here b1)
          replace BY := Lib.hid (BY.out.here b1)
          have B1 := Lib.hid (thence B0.out b1 (Nat.le_refl _))
          clear b1 B0
          obtain ⟨c0, c1, c2, c3, c4, c5⟩ := BX.out.six
          have ltBX := BX.out.lt
          obtain ⟨y0, y1, y2, y3⟩ := BY.out.four
          have ltBY := BY.out.lt
          go_wp2_with fail
          (with_reducible refine (CK.out _).mono ?_)
          rintro e w2 ⟨rfl, b2⟩
          clear c0 c1 c2 c3 c4 c5 y0 y1 y2 y3 ltBX ltBY
          replace BX := Lib.hid (BX.out.here b2)
          replace BY := Lib.hid (BY.out.here b2)
          have ha2 : Below w2.heap.size w2 (w2.alloc (.cells #[.bool x0, .bool x1, .bool x2] 55)) := (Below.refl _ _).alloc (Nat.le_refl _) _
          replace BX := Lib.hid (BX.out.here ha2)
          replace BY := Lib.hid (BY.out.here ha2)
          have BK : Hid (Bx (w2.alloc (.cells #[.bool x0, .bool x1, .bool x2] 55)) w2.heap.size [.bool x0, .bool x1, .bool x2]) := Bx.new w2 [.bool x0, .bool x1, .bool x2] 55
          have B2 := Lib.hid (thence B1.out (thence b2 ha2 (Nat.le_refl _)) (Nat.le_refl _))
          clear ha2
          clear b2 B1
          obtain ⟨c0, c1, c2, c3, c4, c5⟩ := BX.out.six
          have ltBX := BX.out.lt
          obtain ⟨y0, y1, y2, y3⟩ := BY.out.four
          have ltBY := BY.out.lt
          obtain ⟨k0, k1, k2⟩ := BK.out.three
          have ltBK := BK.out.lt
          go_wp2_with fail
          (with_reducible refine (CP.out _).mono ?_)
          rintro e w3 ⟨rfl, b3⟩
          clear c0 c1 c2 c3 c4 c5 y0 y1 y2 y3 k0 k1 k2 ltBX ltBY ltBK
          replace BX := Lib.hid (BX.out.here b3)
          replace BY := Lib.hid (BY.out.here b3)
          replace BK := Lib.hid (BK.out.here b3)
          have B3 := Lib.hid (thence B2.out b3 (Nat.le_refl _))
          clear b3 B2
          obtain ⟨c0, c1, c2, c3, c4, c5⟩ := BX.out.six
          have ltBX := BX.out.lt
          obtain ⟨y0, y1, y2, y3⟩ := BY.out.four
          have ltBY := BY.out.lt
          obtain ⟨k0, k1, k2⟩ := BK.out.three
          have ltBK := BK.out.lt
          go_wp2_with fail
          refine wp_region_noPanic ?_
          refine PX.wp_region_y (fun w' => Below w3.heap.size w3 w') [] (by kernel_rfl) (Below.refl _ _).drew (fun hHeld => ?_)
          refine PX.wpAnyY_take (i := 0) (oi := ?_) (v := ?_) ?_ (by kernel_rfl) (by kernel_rfl) (by kernel_rfl) (by kernel_rfl) (by kernel_rfl) (fun _ _ _ h => h) (Or.inl ⟨?_, ?_⟩) (by assumption) ?_
          rotate_left 2
          · simp only [List.getElem?_toArray, List.getElem?_cons_succ, List.getElem?_cons_zero]; rfl
          · rfl
          · intro w hSw; (try dsimp only at hSw); go_simp <;> with_reducible rfl
          (try simp only [Act.put, List.setIfInBounds_toArray, List.set_cons_zero, List.set_cons_succ])
          refine PX.wpAnyY_take (i := 1) (oi := ?_) (v := ?_) ?_ (by kernel_rfl) (by kernel_rfl) (by kernel_rfl) (by kernel_rfl) (by kernel_rfl) (fun _ _ _ h => h) (Or.inl ⟨?_, ?_⟩) (by assumption) ?_
          rotate_left 2
          · simp only [List.getElem?_toArray, List.getElem?_cons_succ, List.getElem?_cons_zero]; rfl
          · rfl
          · intro w hSw; (try dsimp only at hSw); have hC := fun (b o : Nat) (h : b < w3.heap.size) => Below.cell hSw (p := ⟨b, o, none⟩) h; go_simp <;> with_reducible rfl
          (try simp only [Act.put, List.setIfInBounds_toArray, List.set_cons_zero, List.set_cons_succ])
          refine PX.wpAnyY_take (i := 2) (oi := ?_) (v := ?_) ?_ (by kernel_rfl) (by kernel_rfl) (by kernel_rfl) (by kernel_rfl) (by kernel_rfl) (fun _ _ _ h => h) (Or.inl ⟨?_, ?_⟩) (by assumption) ?_
          rotate_left 2
          · simp only [List.getElem?_toArray, List.getElem?_cons_succ, List.getElem?_cons_zero]; rfl
          · rfl
          · intro w hSw; (try dsimp only at hSw); go_simp <;> with_reducible rfl
          (try simp only [Act.put, List.setIfInBounds_toArray, List.set_cons_zero, List.set_cons_succ])
          refine PX.wpAnyY_take (i := 3) (oi := ?_) (v := ?_) ?_ (by kernel_rfl) (by kernel_rfl) (by kernel_rfl) (by kernel_rfl) (by kernel_rfl) (fun _ _ _ h => h) (Or.inl ⟨?_, ?_⟩) (by assumption) ?_
          rotate_left 2
          · simp only [List.getElem?_toArray, List.getElem?_cons_succ, List.getElem?_cons_zero]; rfl
          · rfl
          · intro w hSw; (try dsimp only at hSw); have hC := fun (b o : Nat) (h : b < w3.heap.size) => Below.cell hSw (p := ⟨b, o, none⟩) h; go_simp <;> with_reducible rfl
          (try simp only [Act.put, List.setIfInBounds_toArray, List.set_cons_zero, List.set_cons_succ])
          refine PX.wpAnyY_take (i := 4) (oi := ?_) (v := ?_) ?_ (by kernel_rfl) (by kernel_rfl) (by kernel_rfl) (by kernel_rfl) (by kernel_rfl) (fun _ _ _ h => h) (Or.inl ⟨?_, ?_⟩) (by assumption) ?_
          rotate_left 2
          · simp only [List.getElem?_toArray, List.getElem?_cons_succ, List.getElem?_cons_zero]; rfl
          · rfl
          · intro w hSw; (try dsimp only at hSw); have hC := fun (b o : Nat) (h : b < w3.heap.size) => Below.cell hSw (p := ⟨b, o, none⟩) h; go_simp <;> with_reducible rfl
          (try simp only [Act.put, List.setIfInBounds_toArray, List.set_cons_zero, List.set_cons_succ])
          refine PX.wpAnyY_one (i := 5) (o := ?_) (by kernel_rfl) ?_ (fun Kq hKq => ?_)
          rotate_left
          · simp only [List.getElem?_toArray, List.getElem?_cons_succ, List.getElem?_cons_zero]; rfl
          go_simp
          (with_reducible refine (CY.out _).mono ?_)
          rintro e w4 ⟨rfl, bqw4⟩
          have Hw4 := Lib.hid (thence hHeld bqw4 (Nat.le_refl _))
          clear bqw4
          go_wp2_with fail
          refine hKq.out _ _ (Hw4.out) (fun hHeld => ?_)
          clear hKq Kq
          (try simp only [Act.put, List.setIfInBounds_toArray, List.set_cons_zero, List.set_cons_succ])
          refine PX.wpAnyY_one (i := 6) (o := ?_) (by kernel_rfl) ?_ (fun Kq hKq => ?_)
          rotate_left
          · simp only [List.getElem?_toArray, List.getElem?_cons_succ, List.getElem?_cons_zero]; rfl
          go_simp
          refine hKq.out _ _ (hHeld) (fun hHeld => ?_)
          clear hKq Kq
          (try simp only [Act.put, List.setIfInBounds_toArray, List.set_cons_zero, List.set_cons_succ])
          refine PX.wpAnyY_done (by kernel_rfl) ?_ _
          refine NoPanic.normal ?_
          have HE := Lib.hid (thence B3.out Hw4.out (Nat.le_refl _))
          clear hHeld
          go_wp2_with fail
          go_ret
          exact ⟨rfl, HE.out⟩

set_option maxHeartbeats 2000000 in
theorem spBlocks_any (id : Nat) (mem chunk rows log heads : Int) (k : Nat) (at_ many : Int) (da : Option Addr) (dn dc : Nat) (w : World) :
    Calls Try.prog 10 #[.agg #[.int .u32 (id : Int), .int .i64 mem, .int .i64 chunk, .int .i64 rows, .int .i64 log, .int .i64 heads], .agg #[.int .u8 (k : Int), .int .i64 at_, .int .i64 many, .slice da dn dc]] w (NewInts w (if QK.code ⟨id, mem, chunk, rows, log, heads⟩ k at_ many dn = 0 then QK.blks at_ many else []) (QK.code ⟨id, mem, chunk, rows, log, heads⟩ k at_ many dn)) := by
  have ha1 : Below w.heap.size w (w.alloc (.cells #[.int .u32 (id : Int), .int .i64 mem, .int .i64 chunk, .int .i64 rows, .int .i64 log, .int .i64 heads] 24)) := (Below.refl _ _).alloc (Nat.le_refl _) _
  have ha2 : Below (w.alloc (.cells #[.int .u32 (id : Int), .int .i64 mem, .int .i64 chunk, .int .i64 rows, .int .i64 log, .int .i64 heads] 24)).heap.size (w.alloc (.cells #[.int .u32 (id : Int), .int .i64 mem, .int .i64 chunk, .int .i64 rows, .int .i64 log, .int .i64 heads] 24)) ((w.alloc (.cells #[.int .u32 (id : Int), .int .i64 mem, .int .i64 chunk, .int .i64 rows, .int .i64 log, .int .i64 heads] 24)).alloc (.cells #[.int .u8 (k : Int), .int .i64 at_, .int .i64 many, .slice da dn dc] 32)) := (Below.refl _ _).alloc (Nat.le_refl _) _
  have B0 : Hid (Below w.heap.size w ((w.alloc (.cells #[.int .u32 (id : Int), .int .i64 mem, .int .i64 chunk, .int .i64 rows, .int .i64 log, .int .i64 heads] 24)).alloc (.cells #[.int .u8 (k : Int), .int .i64 at_, .int .i64 many, .slice da dn dc] 32))) := thence (ha1) ha2 (Nat.le_refl _)
  have BX : Hid (Bx ((w.alloc (.cells #[.int .u32 (id : Int), .int .i64 mem, .int .i64 chunk, .int .i64 rows, .int .i64 log, .int .i64 heads] 24)).alloc (.cells #[.int .u8 (k : Int), .int .i64 at_, .int .i64 many, .slice da dn dc] 32)) (w.heap.size) [.int .u32 (id : Int), .int .i64 mem, .int .i64 chunk, .int .i64 rows, .int .i64 log, .int .i64 heads]) := ((Bx.new w [.int .u32 (id : Int), .int .i64 mem, .int .i64 chunk, .int .i64 rows, .int .i64 log, .int .i64 heads] 24)).here ha2
  have BY : Hid (Bx ((w.alloc (.cells #[.int .u32 (id : Int), .int .i64 mem, .int .i64 chunk, .int .i64 rows, .int .i64 log, .int .i64 heads] 24)).alloc (.cells #[.int .u8 (k : Int), .int .i64 at_, .int .i64 many, .slice da dn dc] 32)) (w.heap.size + 1) [.int .u8 (k : Int), .int .i64 at_, .int .i64 many, .slice da dn dc]) := by
    have h := (Bx.new (w.alloc (.cells #[.int .u32 (id : Int), .int .i64 mem, .int .i64 chunk, .int .i64 rows, .int .i64 log, .int .i64 heads] 24)) [.int .u8 (k : Int), .int .i64 at_, .int .i64 many, .slice da dn dc] 32)
    have e : (w.alloc (.cells #[.int .u32 (id : Int), .int .i64 mem, .int .i64 chunk, .int .i64 rows, .int .i64 log, .int .i64 heads] 24)).heap.size = w.heap.size + 1 := by simp
    rw [e] at h
    exact h
  clear ha1 ha2
  have C1 := Lib.hid (spCheck_any id mem chunk rows log heads k at_ many da dn dc)
  obtain ⟨q1, hq1⟩ : ∃ q, QK.code ⟨id, mem, chunk, rows, log, heads⟩ k at_ many dn = q := ⟨_, rfl⟩
  rw [hq1] at C1
  rw [hq1]
  by_cases g1 : q1 = 0
  case neg =>
    rw [if_neg g1]
    have t0 : ((q1 : Int) == 0) = false := beq_eq_false_iff_ne.2 (by omega)
    have t1 : ((q1 : Int) != 0) = true := by rw [bne, t0]; rfl
    clear g1 hq1
    go_enter Try.func10, Try.ntmps10
    go_wp2_with fail
    (with_reducible refine (C1.out _).mono ?_)
    rintro e w1 ⟨rfl, b1⟩
    replace BX := Lib.hid (BX.out.here b1)
    replace BY := Lib.hid (BY.out.here b1)
    have B1 := Lib.hid (thence B0.out b1 (Nat.le_refl _))
    clear b1 B0
    obtain ⟨c0, c1, c2, c3, c4, c5⟩ := BX.out.six
    have ltBX := BX.out.lt
    obtain ⟨y0, y1, y2, y3⟩ := BY.out.four
    have ltBY := BY.out.lt
    go_wp2_with fail
    go_ret2
    exact ⟨none, 0, 0, rfl, rg_nil _ _ _ _, B1.out⟩
  subst g1
  rw [if_pos rfl]
  have p1 := QK.code_iff.1 hq1
  have b1 := QK.placed_bd p1.1 p1.2.1
  obtain ⟨x0, x1, x2, x3, -, -⟩ := b1
  have CL := Lib.hid (fun w1 => spBlocksOf_any k at_ many da dn dc w1 ⟨x0, x1, x2, x3⟩)
  clear p1 hq1
  go_enter Try.func10, Try.ntmps10
  go_wp2_with fail
  (with_reducible refine (C1.out _).mono ?_)
  rintro e w1 ⟨rfl, b1⟩
  replace BX := Lib.hid (BX.out.here b1)
  replace BY := Lib.hid (BY.out.here b1)
  have B1 := Lib.hid (thence B0.out b1 (Nat.le_refl _))
  clear b1 B0
  obtain ⟨c0, c1, c2, c3, c4, c5⟩ := BX.out.six
  have ltBX := BX.out.lt
  obtain ⟨y0, y1, y2, y3⟩ := BY.out.four
  have ltBY := BY.out.lt
  go_wp2_with fail
  (with_reducible refine (CL.out _).mono ?_)
  rintro e w2 ⟨a, cp, rfl, rg, b2⟩
  clear c0 c1 c2 c3 c4 c5 y0 y1 y2 y3 ltBX ltBY
  replace BX := Lib.hid (BX.out.here b2)
  replace BY := Lib.hid (BY.out.here b2)
  have B2 := Lib.hid (thence B1.out b2 (Nat.le_refl _))
  have RG := Lib.hid rg
  clear b2 B1 rg
  obtain ⟨c0, c1, c2, c3, c4, c5⟩ := BX.out.six
  have ltBX := BX.out.lt
  obtain ⟨y0, y1, y2, y3⟩ := BY.out.four
  have ltBY := BY.out.lt
  go_wp2_with fail
  go_ret2
  exact ⟨a, _, cp, rfl, RG.out, B2.out⟩

theorem spMeet_val {k k' : Nat} {a b : Int} {m m' : Nat} (h : (QK.wr k || QK.wr k') = true) (h0 : 0 ≤ a) (h1 : 0 ≤ b) (hm : m = 0 → a = 0) (hm' : m' = 0 → b = 0) : QK.meet k a (m : Int) k' b (m' : Int) = QK.met b a m m' := by
  rw [QK.met_all h1 h0 hm' hm]
  unfold QK.meet
  rw [h, Bool.true_and, decide_eq_decide]
  exact ⟨fun q => ⟨q.2, q.1⟩, fun q => ⟨q.2, q.1⟩⟩
theorem spBlocksOf_nat (k : Nat) (at_ : Int) (m : Nat) (da : Option Addr) (dn dc : Nat) (w : World) (hb : 0 ≤ at_ ∧ at_ ≤ 960 ∧ 0 ≤ (m : Int) ∧ (m : Int) ≤ 8) :
    Calls Try.prog 22 #[.agg #[.int .u8 (k : Int), .int .i64 at_, .int .i64 (m : Int), .slice da dn dc]] w fun e w' => ∃ a cp, e = .returned (.slice a m cp) ∧ Rg kInt 0 w'.heap.size w' a m cp (QK.blks at_ (m : Int)) ∧ Below w.heap.size w w' := by
  refine (spBlocksOf_any k at_ m da dn dc w hb).mono ?_
  rintro e w' ⟨a, cp, he, rg, b⟩
  rw [spBlks.1] at he rg
  exact ⟨a, cp, he, rg, b⟩

set_option maxHeartbeats 4000000 in
theorem spTouch_any (id : Nat) (mem chunk rows log heads : Int) (k : Nat) (at_ many : Int) (da : Option Addr) (dn dc : Nat) (k' : Nat) (at_' many' : Int) (da' : Option Addr) (dn' dc' : Nat) (w : World) :
    Calls Try.prog 12 #[.agg #[.int .u32 (id : Int), .int .i64 mem, .int .i64 chunk, .int .i64 rows, .int .i64 log, .int .i64 heads], .agg #[.int .u8 (k : Int), .int .i64 at_, .int .i64 many, .slice da dn dc], .agg #[.int .u8 (k' : Int), .int .i64 at_', .int .i64 many', .slice da' dn' dc']] w fun e w' => e = .returned (.tuple #[.bool (if QK.tcode ⟨id, mem, chunk, rows, log, heads⟩ k at_ many dn k' at_' many' dn' = 0 then QK.meet k at_ many k' at_' many' else false), .int .i64 ((QK.tcode ⟨id, mem, chunk, rows, log, heads⟩ k at_ many dn k' at_' many' dn' : Nat) : Int)]) ∧ Below w.heap.size w w' := by
  have ha1 : Below w.heap.size w (w.alloc (.cells #[.int .u32 (id : Int), .int .i64 mem, .int .i64 chunk, .int .i64 rows, .int .i64 log, .int .i64 heads] 24)) := (Below.refl _ _).alloc (Nat.le_refl _) _
  have ha2 : Below (w.alloc (.cells #[.int .u32 (id : Int), .int .i64 mem, .int .i64 chunk, .int .i64 rows, .int .i64 log, .int .i64 heads] 24)).heap.size (w.alloc (.cells #[.int .u32 (id : Int), .int .i64 mem, .int .i64 chunk, .int .i64 rows, .int .i64 log, .int .i64 heads] 24)) ((w.alloc (.cells #[.int .u32 (id : Int), .int .i64 mem, .int .i64 chunk, .int .i64 rows, .int .i64 log, .int .i64 heads] 24)).alloc (.cells #[.int .u8 (k : Int), .int .i64 at_, .int .i64 many, .slice da dn dc] 32)) := (Below.refl _ _).alloc (Nat.le_refl _) _
  have ha3 : Below ((w.alloc (.cells #[.int .u32 (id : Int), .int .i64 mem, .int .i64 chunk, .int .i64 rows, .int .i64 log, .int .i64 heads] 24)).alloc (.cells #[.int .u8 (k : Int), .int .i64 at_, .int .i64 many, .slice da dn dc] 32)).heap.size ((w.alloc (.cells #[.int .u32 (id : Int), .int .i64 mem, .int .i64 chunk, .int .i64 rows, .int .i64 log, .int .i64 heads] 24)).alloc (.cells #[.int .u8 (k : Int), .int .i64 at_, .int .i64 many, .slice da dn dc] 32)) (((w.alloc (.cells #[.int .u32 (id : Int), .int .i64 mem, .int .i64 chunk, .int .i64 rows, .int .i64 log, .int .i64 heads] 24)).alloc (.cells #[.int .u8 (k : Int), .int .i64 at_, .int .i64 many, .slice da dn dc] 32)).alloc (.cells #[.int .u8 (k' : Int), .int .i64 at_', .int .i64 many', .slice da' dn' dc'] 32)) := (Below.refl _ _).alloc (Nat.le_refl _) _
  have B0 : Hid (Below w.heap.size w (((w.alloc (.cells #[.int .u32 (id : Int), .int .i64 mem, .int .i64 chunk, .int .i64 rows, .int .i64 log, .int .i64 heads] 24)).alloc (.cells #[.int .u8 (k : Int), .int .i64 at_, .int .i64 many, .slice da dn dc] 32)).alloc (.cells #[.int .u8 (k' : Int), .int .i64 at_', .int .i64 many', .slice da' dn' dc'] 32))) := thence (thence (ha1) ha2 (Nat.le_refl _)) ha3 (Nat.le_refl _)
  have BX : Hid (Bx (((w.alloc (.cells #[.int .u32 (id : Int), .int .i64 mem, .int .i64 chunk, .int .i64 rows, .int .i64 log, .int .i64 heads] 24)).alloc (.cells #[.int .u8 (k : Int), .int .i64 at_, .int .i64 many, .slice da dn dc] 32)).alloc (.cells #[.int .u8 (k' : Int), .int .i64 at_', .int .i64 many', .slice da' dn' dc'] 32)) (w.heap.size) [.int .u32 (id : Int), .int .i64 mem, .int .i64 chunk, .int .i64 rows, .int .i64 log, .int .i64 heads]) := (((Bx.new w [.int .u32 (id : Int), .int .i64 mem, .int .i64 chunk, .int .i64 rows, .int .i64 log, .int .i64 heads] 24)).here ha2).here ha3
  have BY : Hid (Bx (((w.alloc (.cells #[.int .u32 (id : Int), .int .i64 mem, .int .i64 chunk, .int .i64 rows, .int .i64 log, .int .i64 heads] 24)).alloc (.cells #[.int .u8 (k : Int), .int .i64 at_, .int .i64 many, .slice da dn dc] 32)).alloc (.cells #[.int .u8 (k' : Int), .int .i64 at_', .int .i64 many', .slice da' dn' dc'] 32)) (w.heap.size + 1) [.int .u8 (k : Int), .int .i64 at_, .int .i64 many, .slice da dn dc]) := by
    have h := ((Bx.new (w.alloc (.cells #[.int .u32 (id : Int), .int .i64 mem, .int .i64 chunk, .int .i64 rows, .int .i64 log, .int .i64 heads] 24)) [.int .u8 (k : Int), .int .i64 at_, .int .i64 many, .slice da dn dc] 32)).here ha3
    have e : (w.alloc (.cells #[.int .u32 (id : Int), .int .i64 mem, .int .i64 chunk, .int .i64 rows, .int .i64 log, .int .i64 heads] 24)).heap.size = w.heap.size + 1 := by simp
    rw [e] at h
    exact h
  have BZ : Hid (Bx (((w.alloc (.cells #[.int .u32 (id : Int), .int .i64 mem, .int .i64 chunk, .int .i64 rows, .int .i64 log, .int .i64 heads] 24)).alloc (.cells #[.int .u8 (k : Int), .int .i64 at_, .int .i64 many, .slice da dn dc] 32)).alloc (.cells #[.int .u8 (k' : Int), .int .i64 at_', .int .i64 many', .slice da' dn' dc'] 32)) (w.heap.size + 1 + 1) [.int .u8 (k' : Int), .int .i64 at_', .int .i64 many', .slice da' dn' dc']) := by
    have h := (Bx.new ((w.alloc (.cells #[.int .u32 (id : Int), .int .i64 mem, .int .i64 chunk, .int .i64 rows, .int .i64 log, .int .i64 heads] 24)).alloc (.cells #[.int .u8 (k : Int), .int .i64 at_, .int .i64 many, .slice da dn dc] 32)) [.int .u8 (k' : Int), .int .i64 at_', .int .i64 many', .slice da' dn' dc'] 32)
    have e : ((w.alloc (.cells #[.int .u32 (id : Int), .int .i64 mem, .int .i64 chunk, .int .i64 rows, .int .i64 log, .int .i64 heads] 24)).alloc (.cells #[.int .u8 (k : Int), .int .i64 at_, .int .i64 many, .slice da dn dc] 32)).heap.size = w.heap.size + 1 + 1 := by simp
    rw [e] at h
    exact h
  clear ha1 ha2 ha3
  have C1 := Lib.hid (spCheck_any id mem chunk rows log heads k at_ many da dn dc)
  have C2 := Lib.hid (spCheck_any id mem chunk rows log heads k' at_' many' da' dn' dc')
  unfold QK.tcode
  obtain ⟨q1, hq1⟩ : ∃ q, QK.code ⟨id, mem, chunk, rows, log, heads⟩ k at_ many dn = q := ⟨_, rfl⟩
  obtain ⟨q2, hq2⟩ : ∃ q, QK.code ⟨id, mem, chunk, rows, log, heads⟩ k' at_' many' dn' = q := ⟨_, rfl⟩
  rw [hq1] at C1
  rw [hq2] at C2
  rw [hq1, hq2]
  by_cases g1 : q1 = 0
  case neg =>
    simp only [if_neg g1]
    have t0 : ((q1 : Int) == 0) = false := beq_eq_false_iff_ne.2 (by omega)
    have t1 : ((q1 : Int) != 0) = true := by rw [bne, t0]; rfl
    clear g1 hq1 hq2
    go_enter Try.func12, Try.ntmps12
    go_wp2_with fail
    (with_reducible refine (C1.out _).mono ?_)
    rintro e w1 ⟨rfl, b1⟩
    replace BX := Lib.hid (BX.out.here b1)
    replace BY := Lib.hid (BY.out.here b1)
    replace BZ := Lib.hid (BZ.out.here b1)
    have B1 := Lib.hid (thence B0.out b1 (Nat.le_refl _))
    clear b1 B0
    obtain ⟨c0, c1, c2, c3, c4, c5⟩ := BX.out.six
    have ltBX := BX.out.lt
    obtain ⟨y0, y1, y2, y3⟩ := BY.out.four
    have ltBY := BY.out.lt
    obtain ⟨z0, z1, z2, z3⟩ := BZ.out.four
    have ltBZ := BZ.out.lt
    go_wp2_with fail
    go_ret2
    exact ⟨rfl, B1.out⟩
  subst g1
  by_cases g2 : q2 = 0
  case neg =>
    simp only [if_pos, if_neg g2]
    have t0 : ((q2 : Int) == 0) = false := beq_eq_false_iff_ne.2 (by omega)
    have t1 : ((q2 : Int) != 0) = true := by rw [bne, t0]; rfl
    clear g2 hq1 hq2
    go_enter Try.func12, Try.ntmps12
    go_wp2_with fail
    (with_reducible refine (C1.out _).mono ?_)
    rintro e w1 ⟨rfl, b1⟩
    replace BX := Lib.hid (BX.out.here b1)
    replace BY := Lib.hid (BY.out.here b1)
    replace BZ := Lib.hid (BZ.out.here b1)
    have B1 := Lib.hid (thence B0.out b1 (Nat.le_refl _))
    clear b1 B0
    obtain ⟨c0, c1, c2, c3, c4, c5⟩ := BX.out.six
    have ltBX := BX.out.lt
    obtain ⟨y0, y1, y2, y3⟩ := BY.out.four
    have ltBY := BY.out.lt
    obtain ⟨z0, z1, z2, z3⟩ := BZ.out.four
    have ltBZ := BZ.out.lt
    go_wp2_with fail
    (with_reducible refine (C2.out _).mono ?_)
    rintro e w2 ⟨rfl, b2⟩
    clear c0 c1 c2 c3 c4 c5 y0 y1 y2 y3 z0 z1 z2 z3 ltBX ltBY ltBZ
    replace BX := Lib.hid (BX.out.here b2)
    replace BY := Lib.hid (BY.out.here b2)
    replace BZ := Lib.hid (BZ.out.here b2)
    have B2 := Lib.hid (thence B1.out b2 (Nat.le_refl _))
    clear b2 B1
    obtain ⟨c0, c1, c2, c3, c4, c5⟩ := BX.out.six
    have ltBX := BX.out.lt
    obtain ⟨y0, y1, y2, y3⟩ := BY.out.four
    have ltBY := BY.out.lt
    obtain ⟨z0, z1, z2, z3⟩ := BZ.out.four
    have ltBZ := BZ.out.lt
    go_wp2_with fail
    go_ret2
    exact ⟨rfl, B2.out⟩
  subst g2
  simp only [if_pos]
  have p1 := QK.code_iff.1 hq1
  have p2 := QK.code_iff.1 hq2
  obtain ⟨x0, x1, x2, x3, x4, -⟩ := QK.placed_bd p1.1 p1.2.1
  obtain ⟨v0, v1, v2, v3, v4, -⟩ := QK.placed_bd p2.1 p2.2.1
  obtain ⟨m, rfl⟩ := Int.eq_ofNat_of_zero_le x2
  obtain ⟨m', rfl⟩ := Int.eq_ofNat_of_zero_le v2
  have CL := Lib.hid (fun w1 => spBlocksOf_nat k at_ m da dn dc w1 ⟨x0, x1, x2, x3⟩)
  have CL' := Lib.hid (fun w1 => spBlocksOf_nat k' at_' m' da' dn' dc' w1 ⟨v0, v1, v2, v3⟩)
  have CM : Hid (∀ (xa : Option Addr) (xc : Nat) (ya : Option Addr) (yc : Nat) (w : World), Rg kInt 0 w.heap.size w xa m xc (QK.blks at_ (m : Int)) → Rg kInt 0 w.heap.size w ya m' yc (QK.blks at_' (m' : Int)) → Calls Try.prog 24 #[.slice xa m xc, .slice ya m' yc] w fun e w' => e = .returned (.bool (QK.met at_' at_ m m')) ∧ Below w.heap.size w w') :=
    fun xa xc ya yc w hx hy => spMeet_any at_ at_' m m' xa xc ya yc w hx hy ⟨x0, x1⟩ ⟨v0, v1⟩ (by omega) (by omega)
  have CW := Lib.hid (spWrites_any k at_ m da dn dc)
  have CW' := Lib.hid (spWrites_any k' at_' m' da' dn' dc')
  have HN : Hid (QK.wr k = false → QK.wr k' = false → QK.meet k at_ (m : Int) k' at_' (m' : Int) = false) := fun h h' => QK.meet_no h h'
  have HV : Hid ((QK.wr k || QK.wr k') = true → QK.meet k at_ (m : Int) k' at_' (m' : Int) = QK.met at_' at_ m m') := fun h => spMeet_val h x0 v0 (by omega) (by omega)
  clear p1 p2 hq1 hq2 x0 x1 x2 x3 x4 v0 v1 v2 v3 v4
  generalize QK.meet k at_ (m : Int) k' at_' (m' : Int) = mt at *
  generalize QK.met at_' at_ m m' = mm at *
  generalize QK.wr k = wk at *
  generalize QK.wr k' = wk' at *
  cases wk with
  | true =>
    have e0 : mt = mm := HV.out rfl
    subst e0
    go_enter Try.func12, Try.ntmps12
    go_wp2_with fail
    (with_reducible refine (C1.out _).mono ?_)
    rintro e w1 ⟨rfl, b1⟩
    replace BX := Lib.hid (BX.out.here b1)
    replace BY := Lib.hid (BY.out.here b1)
    replace BZ := Lib.hid (BZ.out.here b1)
    have B1 := Lib.hid (thence B0.out b1 (Nat.le_refl _))
    clear b1 B0
    obtain ⟨c0, c1, c2, c3, c4, c5⟩ := BX.out.six
    have ltBX := BX.out.lt
    obtain ⟨y0, y1, y2, y3⟩ := BY.out.four
    have ltBY := BY.out.lt
    obtain ⟨z0, z1, z2, z3⟩ := BZ.out.four
    have ltBZ := BZ.out.lt
    go_wp2_with fail
    (with_reducible refine (C2.out _).mono ?_)
    rintro e w2 ⟨rfl, b2⟩
    clear c0 c1 c2 c3 c4 c5 y0 y1 y2 y3 z0 z1 z2 z3 ltBX ltBY ltBZ
    replace BX := Lib.hid (BX.out.here b2)
    replace BY := Lib.hid (BY.out.here b2)
    replace BZ := Lib.hid (BZ.out.here b2)
    have B2 := Lib.hid (thence B1.out b2 (Nat.le_refl _))
    clear b2 B1
    obtain ⟨c0, c1, c2, c3, c4, c5⟩ := BX.out.six
    have ltBX := BX.out.lt
    obtain ⟨y0, y1, y2, y3⟩ := BY.out.four
    have ltBY := BY.out.lt
    obtain ⟨z0, z1, z2, z3⟩ := BZ.out.four
    have ltBZ := BZ.out.lt
    go_wp2_with fail
    refine wp_region_noPanic ?_
    refine PX.wp_region_y (fun w' => Below w2.heap.size w2 w') [14] (by kernel_rfl) (Below.refl _ _).drew (fun hHeld => ?_)
    refine PX.wpAnyY_take (i := 0) (oi := ?_) (v := ?_) ?_ (by kernel_rfl) (by kernel_rfl) (by kernel_rfl) (by kernel_rfl) (by kernel_rfl) (fun _ _ _ h => h) (Or.inl ⟨?_, ?_⟩) (by assumption) ?_
    rotate_left 2
    · simp only [List.getElem?_toArray, List.getElem?_cons_succ, List.getElem?_cons_zero]; rfl
    · rfl
    · intro w hSw; (try dsimp only at hSw); have hC := fun (b o : Nat) (h : b < w2.heap.size) => Below.cell hSw (p := ⟨b, o, none⟩) h; go_simp <;> with_reducible rfl
    (try simp only [Act.put, List.setIfInBounds_toArray, List.set_cons_zero, List.set_cons_succ])
    refine PX.wpAnyY_one (i := 1) (o := ?_) (by kernel_rfl) ?_ (fun Kq hKq => ?_)
    rotate_left
    · simp only [List.getElem?_toArray, List.getElem?_cons_succ, List.getElem?_cons_zero]; rfl
    go_simp
    (with_reducible refine (CW.out _).mono ?_)
    rintro e w3 ⟨rfl, bqw3⟩
    have Hw3 := Lib.hid (thence hHeld bqw3 (Nat.le_refl _))
    clear bqw3
    go_wp2_with fail
    refine hKq.out _ _ (Hw3.out) (fun hHeld => ?_)
    clear hKq Kq
    (try simp only [Act.put, List.setIfInBounds_toArray, List.set_cons_zero, List.set_cons_succ])
    refine PX.wpAnyY_one (i := 2) (o := ?_) (by kernel_rfl) ?_ (fun Kq hKq => ?_)
    rotate_left
    · simp only [List.getElem?_toArray, List.getElem?_cons_succ, List.getElem?_cons_zero]; rfl
    go_simp
    refine hKq.out _ _ (hHeld) (fun hHeld => ?_)
    clear hKq Kq
    (try simp only [Act.put, List.setIfInBounds_toArray, List.set_cons_zero, List.set_cons_succ])
    refine PX.wpAnyY_one (i := 3) (o := ?_) (by kernel_rfl) ?_ (fun Kq hKq => ?_)
    rotate_left
    · simp only [List.getElem?_toArray, List.getElem?_cons_succ, List.getElem?_cons_zero]; rfl
    go_simp
    refine hKq.out _ _ (hHeld) (fun hHeld => ?_)
    clear hKq Kq
    (try simp only [Act.put, List.setIfInBounds_toArray, List.set_cons_zero, List.set_cons_succ])
    refine PX.wpAnyY_one (i := 4) (o := ?_) (by kernel_rfl) ?_ (fun Kq hKq => ?_)
    rotate_left
    · simp only [List.getElem?_toArray, List.getElem?_cons_succ, List.getElem?_cons_zero]; rfl
    go_simp
    refine hKq.out _ _ (hHeld) (fun hHeld => ?_)
    clear hKq Kq
    (try simp only [Act.put, List.setIfInBounds_toArray, List.set_cons_zero, List.set_cons_succ])
    refine PX.wpAnyY_one (i := 5) (o := ?_) (by kernel_rfl) ?_ (fun Kq hKq => ?_)
    rotate_left
    · simp only [List.getElem?_toArray, List.getElem?_cons_succ, List.getElem?_cons_zero]; rfl
    go_simp
    refine hKq.out _ _ (hHeld) (fun hHeld => ?_)
    clear hKq Kq
    (try simp only [Act.put, List.setIfInBounds_toArray, List.set_cons_zero, List.set_cons_succ])
    refine PX.wpAnyY_one (i := 6) (o := ?_) (by kernel_rfl) ?_ (fun Kq hKq => ?_)
    rotate_left
    · simp only [List.getElem?_toArray, List.getElem?_cons_succ, List.getElem?_cons_zero]; rfl
    go_simp
    refine hKq.out _ _ (hHeld) (fun hHeld => ?_)
    clear hKq Kq
    (try simp only [Act.put, List.setIfInBounds_toArray, List.set_cons_zero, List.set_cons_succ])
    refine PX.wpAnyY_take (i := 7) (oi := ?_) (v := ?_) ?_ (by kernel_rfl) (by kernel_rfl) (by kernel_rfl) (by kernel_rfl) (by kernel_rfl) (fun _ _ _ h => h) (Or.inl ⟨?_, ?_⟩) (by assumption) ?_
    rotate_left 2
    · simp only [List.getElem?_toArray, List.getElem?_cons_succ, List.getElem?_cons_zero]; rfl
    · rfl
    · intro w hSw; (try dsimp only at hSw); have hC := fun (b o : Nat) (h : b < w2.heap.size) => Below.cell hSw (p := ⟨b, o, none⟩) h; go_simp <;> with_reducible rfl
    (try simp only [Act.put, List.setIfInBounds_toArray, List.set_cons_zero, List.set_cons_succ])
    refine PX.wpAnyY_take (i := 9) (oi := ?_) (v := ?_) ?_ (by kernel_rfl) (by kernel_rfl) (by kernel_rfl) (by kernel_rfl) (by kernel_rfl) (fun _ _ _ h => h) (Or.inl ⟨?_, ?_⟩) (by assumption) ?_
    rotate_left 2
    · simp only [List.getElem?_toArray, List.getElem?_cons_succ, List.getElem?_cons_zero]; rfl
    · rfl
    · intro w hSw; (try dsimp only at hSw); have hC := fun (b o : Nat) (h : b < w2.heap.size) => Below.cell hSw (p := ⟨b, o, none⟩) h; go_simp <;> with_reducible rfl
    (try simp only [Act.put, List.setIfInBounds_toArray, List.set_cons_zero, List.set_cons_succ])
    refine PX.wpAnyY_one (i := 8) (o := ?_) (by kernel_rfl) ?_ (fun Kq hKq => ?_)
    rotate_left
    · simp only [List.getElem?_toArray, List.getElem?_cons_succ, List.getElem?_cons_zero]; rfl
    go_simp
    (with_reducible refine (CL.out _).mono ?_)
    rintro e w5 ⟨xa, xc, rfl, rx, bqw5⟩
    have Hw5 := Lib.hid (thence Hw3.out bqw5 (Nat.le_refl _))
    have RX := Lib.hid rx
    clear rx
    clear bqw5
    go_wp2_with fail
    refine hKq.out _ _ (Hw5.out) (fun hHeld => ?_)
    clear hKq Kq
    (try simp only [Act.put, List.setIfInBounds_toArray, List.set_cons_zero, List.set_cons_succ])
    refine PX.wpAnyY_one (i := 10) (o := ?_) (by kernel_rfl) ?_ (fun Kq hKq => ?_)
    rotate_left
    · simp only [List.getElem?_toArray, List.getElem?_cons_succ, List.getElem?_cons_zero]; rfl
    go_simp
    (with_reducible refine (CL'.out _).mono ?_)
    rintro e w6 ⟨ya, yc, rfl, ry, bqw6⟩
    have Hw6 := Lib.hid (thence Hw5.out bqw6 (Nat.le_refl _))
    have RY := Lib.hid ry
    replace RX := Lib.hid (RX.out.here bqw6)
    clear ry
    clear bqw6
    go_wp2_with fail
    refine hKq.out _ _ (Hw6.out) (fun hHeld => ?_)
    clear hKq Kq
    (try simp only [Act.put, List.setIfInBounds_toArray, List.set_cons_zero, List.set_cons_succ])
    refine PX.wpAnyY_one (i := 11) (o := ?_) (by kernel_rfl) ?_ (fun Kq hKq => ?_)
    rotate_left
    · simp only [List.getElem?_toArray, List.getElem?_cons_succ, List.getElem?_cons_zero]; rfl
    go_simp
    (with_reducible refine (CM.out _ _ _ _ _ RX.out RY.out).mono ?_)
    rintro e w7 ⟨rfl, bqw7⟩
    have Hw7 := Lib.hid (thence Hw6.out bqw7 (Nat.le_refl _))
    clear bqw7
    go_wp2_with fail
    refine hKq.out _ _ (Hw7.out) (fun hHeld => ?_)
    clear hKq Kq
    (try simp only [Act.put, List.setIfInBounds_toArray, List.set_cons_zero, List.set_cons_succ])
    refine PX.wpAnyY_one (i := 12) (o := ?_) (by kernel_rfl) ?_ (fun Kq hKq => ?_)
    rotate_left
    · simp only [List.getElem?_toArray, List.getElem?_cons_succ, List.getElem?_cons_zero]; rfl
    go_simp
    refine hKq.out _ _ (hHeld) (fun hHeld => ?_)
    clear hKq Kq
    (try simp only [Act.put, List.setIfInBounds_toArray, List.set_cons_zero, List.set_cons_succ])
    refine PX.wpAnyY_one (i := 13) (o := ?_) (by kernel_rfl) ?_ (fun Kq hKq => ?_)
    rotate_left
    · simp only [List.getElem?_toArray, List.getElem?_cons_succ, List.getElem?_cons_zero]; rfl
    go_simp
    refine hKq.out _ _ (hHeld) (fun hHeld => ?_)
    clear hKq Kq
    (try simp only [Act.put, List.setIfInBounds_toArray, List.set_cons_zero, List.set_cons_succ])
    refine PX.wpAnyY_free (i := 14) (o := ?_) (by kernel_rfl) (by kernel_rfl) ?_ (fun Kq hKq => ?_)
    rotate_left
    · simp only [List.getElem?_toArray, List.getElem?_cons_succ, List.getElem?_cons_zero]; rfl
    go_simp
    refine hKq.out _ _ ?_
    clear hKq Kq
    (try simp only [Act.put, List.setIfInBounds_toArray, List.set_cons_zero, List.set_cons_succ])
    refine PX.wpAnyY_done (by kernel_rfl) ?_ _
    refine NoPanic.normal ?_
    have HE := Lib.hid (thence B2.out Hw7.out (Nat.le_refl _))
    clear hHeld
    go_wp2_with fail
    go_ret2
    exact ⟨rfl, HE.out⟩
  | false =>
    cases wk' with
    | true =>
      have e0 : mt = mm := HV.out rfl
      subst e0
      go_enter Try.func12, Try.ntmps12
      go_wp2_with fail
      (with_reducible refine (C1.out _).mono ?_)
      rintro e w1 ⟨rfl, b1⟩
      replace BX := Lib.hid (BX.out.here b1)
      replace BY := Lib.hid (BY.out.here b1)
      replace BZ := Lib.hid (BZ.out.here b1)
      have B1 := Lib.hid (thence B0.out b1 (Nat.le_refl _))
      clear b1 B0
      obtain ⟨c0, c1, c2, c3, c4, c5⟩ := BX.out.six
      have ltBX := BX.out.lt
      obtain ⟨y0, y1, y2, y3⟩ := BY.out.four
      have ltBY := BY.out.lt
      obtain ⟨z0, z1, z2, z3⟩ := BZ.out.four
      have ltBZ := BZ.out.lt
      go_wp2_with fail
      (with_reducible refine (C2.out _).mono ?_)
      rintro e w2 ⟨rfl, b2⟩
      clear c0 c1 c2 c3 c4 c5 y0 y1 y2 y3 z0 z1 z2 z3 ltBX ltBY ltBZ
      replace BX := Lib.hid (BX.out.here b2)
      replace BY := Lib.hid (BY.out.here b2)
      replace BZ := Lib.hid (BZ.out.here b2)
      have B2 := Lib.hid (thence B1.out b2 (Nat.le_refl _))
      clear b2 B1
      obtain ⟨c0, c1, c2, c3, c4, c5⟩ := BX.out.six
      have ltBX := BX.out.lt
      obtain ⟨y0, y1, y2, y3⟩ := BY.out.four
      have ltBY := BY.out.lt
      obtain ⟨z0, z1, z2, z3⟩ := BZ.out.four
      have ltBZ := BZ.out.lt
      go_wp2_with fail
      refine wp_region_noPanic ?_
      refine PX.wp_region_y (fun w' => Below w2.heap.size w2 w') [14] (by kernel_rfl) (Below.refl _ _).drew (fun hHeld => ?_)
      refine PX.wpAnyY_take (i := 0) (oi := ?_) (v := ?_) ?_ (by kernel_rfl) (by kernel_rfl) (by kernel_rfl) (by kernel_rfl) (by kernel_rfl) (fun _ _ _ h => h) (Or.inl ⟨?_, ?_⟩) (by assumption) ?_
      rotate_left 2
      · simp only [List.getElem?_toArray, List.getElem?_cons_succ, List.getElem?_cons_zero]; rfl
      · rfl
      · intro w hSw; (try dsimp only at hSw); have hC := fun (b o : Nat) (h : b < w2.heap.size) => Below.cell hSw (p := ⟨b, o, none⟩) h; go_simp <;> with_reducible rfl
      (try simp only [Act.put, List.setIfInBounds_toArray, List.set_cons_zero, List.set_cons_succ])
      refine PX.wpAnyY_one (i := 1) (o := ?_) (by kernel_rfl) ?_ (fun Kq hKq => ?_)
      rotate_left
      · simp only [List.getElem?_toArray, List.getElem?_cons_succ, List.getElem?_cons_zero]; rfl
      go_simp
      (with_reducible refine (CW.out _).mono ?_)
      rintro e w3 ⟨rfl, bqw3⟩
      have Hw3 := Lib.hid (thence hHeld bqw3 (Nat.le_refl _))
      clear bqw3
      go_wp2_with fail
      refine hKq.out _ _ (Hw3.out) (fun hHeld => ?_)
      clear hKq Kq
      (try simp only [Act.put, List.setIfInBounds_toArray, List.set_cons_zero, List.set_cons_succ])
      refine PX.wpAnyY_one (i := 2) (o := ?_) (by kernel_rfl) ?_ (fun Kq hKq => ?_)
      rotate_left
      · simp only [List.getElem?_toArray, List.getElem?_cons_succ, List.getElem?_cons_zero]; rfl
      go_simp
      refine hKq.out _ _ (hHeld) (fun hHeld => ?_)
      clear hKq Kq
      (try simp only [Act.put, List.setIfInBounds_toArray, List.set_cons_zero, List.set_cons_succ])
      refine PX.wpAnyY_take (i := 3) (oi := ?_) (v := ?_) ?_ (by kernel_rfl) (by kernel_rfl) (by kernel_rfl) (by kernel_rfl) (by kernel_rfl) (fun _ _ _ h => h) (Or.inl ⟨?_, ?_⟩) (by assumption) ?_
      rotate_left 2
      · simp only [List.getElem?_toArray, List.getElem?_cons_succ, List.getElem?_cons_zero]; rfl
      · rfl
      · intro w hSw; (try dsimp only at hSw); have hC := fun (b o : Nat) (h : b < w2.heap.size) => Below.cell hSw (p := ⟨b, o, none⟩) h; go_simp <;> with_reducible rfl
      (try simp only [Act.put, List.setIfInBounds_toArray, List.set_cons_zero, List.set_cons_succ])
      refine PX.wpAnyY_one (i := 4) (o := ?_) (by kernel_rfl) ?_ (fun Kq hKq => ?_)
      rotate_left
      · simp only [List.getElem?_toArray, List.getElem?_cons_succ, List.getElem?_cons_zero]; rfl
      go_simp
      (with_reducible refine (CW'.out _).mono ?_)
      rintro e w4 ⟨rfl, bqw4⟩
      have Hw4 := Lib.hid (thence Hw3.out bqw4 (Nat.le_refl _))
      clear bqw4
      go_wp2_with fail
      refine hKq.out _ _ (Hw4.out) (fun hHeld => ?_)
      clear hKq Kq
      (try simp only [Act.put, List.setIfInBounds_toArray, List.set_cons_zero, List.set_cons_succ])
      refine PX.wpAnyY_one (i := 5) (o := ?_) (by kernel_rfl) ?_ (fun Kq hKq => ?_)
      rotate_left
      · simp only [List.getElem?_toArray, List.getElem?_cons_succ, List.getElem?_cons_zero]; rfl
      go_simp
      refine hKq.out _ _ (hHeld) (fun hHeld => ?_)
      clear hKq Kq
      (try simp only [Act.put, List.setIfInBounds_toArray, List.set_cons_zero, List.set_cons_succ])
      refine PX.wpAnyY_one (i := 6) (o := ?_) (by kernel_rfl) ?_ (fun Kq hKq => ?_)
      rotate_left
      · simp only [List.getElem?_toArray, List.getElem?_cons_succ, List.getElem?_cons_zero]; rfl
      go_simp
      refine hKq.out _ _ (hHeld) (fun hHeld => ?_)
      clear hKq Kq
      (try simp only [Act.put, List.setIfInBounds_toArray, List.set_cons_zero, List.set_cons_succ])
      refine PX.wpAnyY_take (i := 7) (oi := ?_) (v := ?_) ?_ (by kernel_rfl) (by kernel_rfl) (by kernel_rfl) (by kernel_rfl) (by kernel_rfl) (fun _ _ _ h => h) (Or.inl ⟨?_, ?_⟩) (by assumption) ?_
      rotate_left 2
      · simp only [List.getElem?_toArray, List.getElem?_cons_succ, List.getElem?_cons_zero]; rfl
      · rfl
      · intro w hSw; (try dsimp only at hSw); have hC := fun (b o : Nat) (h : b < w2.heap.size) => Below.cell hSw (p := ⟨b, o, none⟩) h; go_simp <;> with_reducible rfl
      (try simp only [Act.put, List.setIfInBounds_toArray, List.set_cons_zero, List.set_cons_succ])
      refine PX.wpAnyY_take (i := 9) (oi := ?_) (v := ?_) ?_ (by kernel_rfl) (by kernel_rfl) (by kernel_rfl) (by kernel_rfl) (by kernel_rfl) (fun _ _ _ h => h) (Or.inl ⟨?_, ?_⟩) (by assumption) ?_
      rotate_left 2
      · simp only [List.getElem?_toArray, List.getElem?_cons_succ, List.getElem?_cons_zero]; rfl
      · rfl
      · intro w hSw; (try dsimp only at hSw); have hC := fun (b o : Nat) (h : b < w2.heap.size) => Below.cell hSw (p := ⟨b, o, none⟩) h; go_simp <;> with_reducible rfl
      (try simp only [Act.put, List.setIfInBounds_toArray, List.set_cons_zero, List.set_cons_succ])
      refine PX.wpAnyY_one (i := 8) (o := ?_) (by kernel_rfl) ?_ (fun Kq hKq => ?_)
      rotate_left
      · simp only [List.getElem?_toArray, List.getElem?_cons_succ, List.getElem?_cons_zero]; rfl
      go_simp
      (with_reducible refine (CL.out _).mono ?_)
      rintro e w5 ⟨xa, xc, rfl, rx, bqw5⟩
      have Hw5 := Lib.hid (thence Hw4.out bqw5 (Nat.le_refl _))
      have RX := Lib.hid rx
      clear rx
      clear bqw5
      go_wp2_with fail
      refine hKq.out _ _ (Hw5.out) (fun hHeld => ?_)
      clear hKq Kq
      (try simp only [Act.put, List.setIfInBounds_toArray, List.set_cons_zero, List.set_cons_succ])
      refine PX.wpAnyY_one (i := 10) (o := ?_) (by kernel_rfl) ?_ (fun Kq hKq => ?_)
      rotate_left
      · simp only [List.getElem?_toArray, List.getElem?_cons_succ, List.getElem?_cons_zero]; rfl
      go_simp
      (with_reducible refine (CL'.out _).mono ?_)
      rintro e w6 ⟨ya, yc, rfl, ry, bqw6⟩
      have Hw6 := Lib.hid (thence Hw5.out bqw6 (Nat.le_refl _))
      have RY := Lib.hid ry
      replace RX := Lib.hid (RX.out.here bqw6)
      clear ry
      clear bqw6
      go_wp2_with fail
      refine hKq.out _ _ (Hw6.out) (fun hHeld => ?_)
      clear hKq Kq
      (try simp only [Act.put, List.setIfInBounds_toArray, List.set_cons_zero, List.set_cons_succ])
      refine PX.wpAnyY_one (i := 11) (o := ?_) (by kernel_rfl) ?_ (fun Kq hKq => ?_)
      rotate_left
      · simp only [List.getElem?_toArray, List.getElem?_cons_succ, List.getElem?_cons_zero]; rfl
      go_simp
      (with_reducible refine (CM.out _ _ _ _ _ RX.out RY.out).mono ?_)
      rintro e w7 ⟨rfl, bqw7⟩
      have Hw7 := Lib.hid (thence Hw6.out bqw7 (Nat.le_refl _))
      clear bqw7
      go_wp2_with fail
      refine hKq.out _ _ (Hw7.out) (fun hHeld => ?_)
      clear hKq Kq
      (try simp only [Act.put, List.setIfInBounds_toArray, List.set_cons_zero, List.set_cons_succ])
      refine PX.wpAnyY_one (i := 12) (o := ?_) (by kernel_rfl) ?_ (fun Kq hKq => ?_)
      rotate_left
      · simp only [List.getElem?_toArray, List.getElem?_cons_succ, List.getElem?_cons_zero]; rfl
      go_simp
      refine hKq.out _ _ (hHeld) (fun hHeld => ?_)
      clear hKq Kq
      (try simp only [Act.put, List.setIfInBounds_toArray, List.set_cons_zero, List.set_cons_succ])
      refine PX.wpAnyY_one (i := 13) (o := ?_) (by kernel_rfl) ?_ (fun Kq hKq => ?_)
      rotate_left
      · simp only [List.getElem?_toArray, List.getElem?_cons_succ, List.getElem?_cons_zero]; rfl
      go_simp
      refine hKq.out _ _ (hHeld) (fun hHeld => ?_)
      clear hKq Kq
      (try simp only [Act.put, List.setIfInBounds_toArray, List.set_cons_zero, List.set_cons_succ])
      refine PX.wpAnyY_free (i := 14) (o := ?_) (by kernel_rfl) (by kernel_rfl) ?_ (fun Kq hKq => ?_)
      rotate_left
      · simp only [List.getElem?_toArray, List.getElem?_cons_succ, List.getElem?_cons_zero]; rfl
      go_simp
      refine hKq.out _ _ ?_
      clear hKq Kq
      (try simp only [Act.put, List.setIfInBounds_toArray, List.set_cons_zero, List.set_cons_succ])
      refine PX.wpAnyY_done (by kernel_rfl) ?_ _
      refine NoPanic.normal ?_
      have HE := Lib.hid (thence B2.out Hw7.out (Nat.le_refl _))
      clear hHeld
      go_wp2_with fail
      go_ret2
      exact ⟨rfl, HE.out⟩
    | false =>
      have e0 : mt = false := HN.out rfl rfl
      subst e0
      go_enter Try.func12, Try.ntmps12
      go_wp2_with fail
      (with_reducible refine (C1.out _).mono ?_)
      rintro e w1 ⟨rfl, b1⟩
      replace BX := Lib.hid (BX.out.here b1)
      replace BY := Lib.hid (BY.out.here b1)
      replace BZ := Lib.hid (BZ.out.here b1)
      have B1 := Lib.hid (thence B0.out b1 (Nat.le_refl _))
      clear b1 B0
      obtain ⟨c0, c1, c2, c3, c4, c5⟩ := BX.out.six
      have ltBX := BX.out.lt
      obtain ⟨y0, y1, y2, y3⟩ := BY.out.four
      have ltBY := BY.out.lt
      obtain ⟨z0, z1, z2, z3⟩ := BZ.out.four
      have ltBZ := BZ.out.lt
      go_wp2_with fail
      (with_reducible refine (C2.out _).mono ?_)
      rintro e w2 ⟨rfl, b2⟩
      clear c0 c1 c2 c3 c4 c5 y0 y1 y2 y3 z0 z1 z2 z3 ltBX ltBY ltBZ
      replace BX := Lib.hid (BX.out.here b2)
      replace BY := Lib.hid (BY.out.here b2)
      replace BZ := Lib.hid (BZ.out.here b2)
      have B2 := Lib.hid (thence B1.out b2 (Nat.le_refl _))
      clear b2 B1
      obtain ⟨c0, c1, c2, c3, c4, c5⟩ := BX.out.six
      have ltBX := BX.out.lt
      obtain ⟨y0, y1, y2, y3⟩ := BY.out.four
      have ltBY := BY.out.lt
      obtain ⟨z0, z1, z2, z3⟩ := BZ.out.four
      have ltBZ := BZ.out.lt
      go_wp2_with fail
      refine wp_region_noPanic ?_
      refine PX.wp_region_y (fun w' => Below w2.heap.size w2 w') [14] (by kernel_rfl) (Below.refl _ _).drew (fun hHeld => ?_)
      refine PX.wpAnyY_take (i := 0) (oi := ?_) (v := ?_) ?_ (by kernel_rfl) (by kernel_rfl) (by kernel_rfl) (by kernel_rfl) (by kernel_rfl) (fun _ _ _ h => h) (Or.inl ⟨?_, ?_⟩) (by assumption) ?_
      rotate_left 2
      · simp only [List.getElem?_toArray, List.getElem?_cons_succ, List.getElem?_cons_zero]; rfl
      · rfl
      · intro w hSw; (try dsimp only at hSw); have hC := fun (b o : Nat) (h : b < w2.heap.size) => Below.cell hSw (p := ⟨b, o, none⟩) h; go_simp <;> with_reducible rfl
      (try simp only [Act.put, List.setIfInBounds_toArray, List.set_cons_zero, List.set_cons_succ])
      refine PX.wpAnyY_one (i := 1) (o := ?_) (by kernel_rfl) ?_ (fun Kq hKq => ?_)
      rotate_left
      · simp only [List.getElem?_toArray, List.getElem?_cons_succ, List.getElem?_cons_zero]; rfl
      go_simp
      (with_reducible refine (CW.out _).mono ?_)
      rintro e w3 ⟨rfl, bqw3⟩
      have Hw3 := Lib.hid (thence hHeld bqw3 (Nat.le_refl _))
      clear bqw3
      go_wp2_with fail
      refine hKq.out _ _ (Hw3.out) (fun hHeld => ?_)
      clear hKq Kq
      (try simp only [Act.put, List.setIfInBounds_toArray, List.set_cons_zero, List.set_cons_succ])
      refine PX.wpAnyY_one (i := 2) (o := ?_) (by kernel_rfl) ?_ (fun Kq hKq => ?_)
      rotate_left
      · simp only [List.getElem?_toArray, List.getElem?_cons_succ, List.getElem?_cons_zero]; rfl
      go_simp
      refine hKq.out _ _ (hHeld) (fun hHeld => ?_)
      clear hKq Kq
      (try simp only [Act.put, List.setIfInBounds_toArray, List.set_cons_zero, List.set_cons_succ])
      refine PX.wpAnyY_take (i := 3) (oi := ?_) (v := ?_) ?_ (by kernel_rfl) (by kernel_rfl) (by kernel_rfl) (by kernel_rfl) (by kernel_rfl) (fun _ _ _ h => h) (Or.inl ⟨?_, ?_⟩) (by assumption) ?_
      rotate_left 2
      · simp only [List.getElem?_toArray, List.getElem?_cons_succ, List.getElem?_cons_zero]; rfl
      · rfl
      · intro w hSw; (try dsimp only at hSw); have hC := fun (b o : Nat) (h : b < w2.heap.size) => Below.cell hSw (p := ⟨b, o, none⟩) h; go_simp <;> with_reducible rfl
      (try simp only [Act.put, List.setIfInBounds_toArray, List.set_cons_zero, List.set_cons_succ])
      refine PX.wpAnyY_one (i := 4) (o := ?_) (by kernel_rfl) ?_ (fun Kq hKq => ?_)
      rotate_left
      · simp only [List.getElem?_toArray, List.getElem?_cons_succ, List.getElem?_cons_zero]; rfl
      go_simp
      (with_reducible refine (CW'.out _).mono ?_)
      rintro e w4 ⟨rfl, bqw4⟩
      have Hw4 := Lib.hid (thence Hw3.out bqw4 (Nat.le_refl _))
      clear bqw4
      go_wp2_with fail
      refine hKq.out _ _ (Hw4.out) (fun hHeld => ?_)
      clear hKq Kq
      (try simp only [Act.put, List.setIfInBounds_toArray, List.set_cons_zero, List.set_cons_succ])
      refine PX.wpAnyY_one (i := 5) (o := ?_) (by kernel_rfl) ?_ (fun Kq hKq => ?_)
      rotate_left
      · simp only [List.getElem?_toArray, List.getElem?_cons_succ, List.getElem?_cons_zero]; rfl
      go_simp
      refine hKq.out _ _ (hHeld) (fun hHeld => ?_)
      clear hKq Kq
      (try simp only [Act.put, List.setIfInBounds_toArray, List.set_cons_zero, List.set_cons_succ])
      refine PX.wpAnyY_one (i := 6) (o := ?_) (by kernel_rfl) ?_ (fun Kq hKq => ?_)
      rotate_left
      · simp only [List.getElem?_toArray, List.getElem?_cons_succ, List.getElem?_cons_zero]; rfl
      go_simp
      refine hKq.out _ _ (hHeld) (fun hHeld => ?_)
      clear hKq Kq
      (try simp only [Act.put, List.setIfInBounds_toArray, List.set_cons_zero, List.set_cons_succ])
      refine PX.wpAnyY_take (i := 7) (oi := ?_) (v := undef) ?_ (by kernel_rfl) (by kernel_rfl) (by kernel_rfl) (by kernel_rfl) (by kernel_rfl) (fun _ _ _ h => h) (Or.inr ⟨?_, rfl⟩) (by assumption) ?_
      rotate_left
      · simp only [List.getElem?_toArray, List.getElem?_cons_succ, List.getElem?_cons_zero]; rfl
      · rfl
      (try simp only [Act.put, List.setIfInBounds_toArray, List.set_cons_zero, List.set_cons_succ])
      refine PX.wpAnyY_take (i := 8) (oi := ?_) (v := undef) ?_ (by kernel_rfl) (by kernel_rfl) (by kernel_rfl) (by kernel_rfl) (by kernel_rfl) (fun _ _ _ h => h) (Or.inr ⟨?_, rfl⟩) (by assumption) ?_
      rotate_left
      · simp only [List.getElem?_toArray, List.getElem?_cons_succ, List.getElem?_cons_zero]; rfl
      · rfl
      (try simp only [Act.put, List.setIfInBounds_toArray, List.set_cons_zero, List.set_cons_succ])
      refine PX.wpAnyY_one (i := 9) (o := ?_) (by kernel_rfl) ?_ (fun Kq hKq => ?_)
      rotate_left
      · simp only [List.getElem?_toArray, List.getElem?_cons_succ, List.getElem?_cons_zero]; rfl
      go_simp
      refine hKq.out _ _ (hHeld) (fun hHeld => ?_)
      clear hKq Kq
      (try simp only [Act.put, List.setIfInBounds_toArray, List.set_cons_zero, List.set_cons_succ])
      refine PX.wpAnyY_one (i := 10) (o := ?_) (by kernel_rfl) ?_ (fun Kq hKq => ?_)
      rotate_left
      · simp only [List.getElem?_toArray, List.getElem?_cons_succ, List.getElem?_cons_zero]; rfl
      go_simp
      refine hKq.out _ _ (hHeld) (fun hHeld => ?_)
      clear hKq Kq
      (try simp only [Act.put, List.setIfInBounds_toArray, List.set_cons_zero, List.set_cons_succ])
      refine PX.wpAnyY_one (i := 11) (o := ?_) (by kernel_rfl) ?_ (fun Kq hKq => ?_)
      rotate_left
      · simp only [List.getElem?_toArray, List.getElem?_cons_succ, List.getElem?_cons_zero]; rfl
      go_simp
      refine hKq.out _ _ (hHeld) (fun hHeld => ?_)
      clear hKq Kq
      (try simp only [Act.put, List.setIfInBounds_toArray, List.set_cons_zero, List.set_cons_succ])
      refine PX.wpAnyY_one (i := 12) (o := ?_) (by kernel_rfl) ?_ (fun Kq hKq => ?_)
      rotate_left
      · simp only [List.getElem?_toArray, List.getElem?_cons_succ, List.getElem?_cons_zero]; rfl
      go_simp
      refine hKq.out _ _ (hHeld) (fun hHeld => ?_)
      clear hKq Kq
      (try simp only [Act.put, List.setIfInBounds_toArray, List.set_cons_zero, List.set_cons_succ])
      refine PX.wpAnyY_one (i := 13) (o := ?_) (by kernel_rfl) ?_ (fun Kq hKq => ?_)
      rotate_left
      · simp only [List.getElem?_toArray, List.getElem?_cons_succ, List.getElem?_cons_zero]; rfl
      go_simp
      refine hKq.out _ _ (hHeld) (fun hHeld => ?_)
      clear hKq Kq
      (try simp only [Act.put, List.setIfInBounds_toArray, List.set_cons_zero, List.set_cons_succ])
      refine PX.wpAnyY_free (i := 14) (o := ?_) (by kernel_rfl) (by kernel_rfl) ?_ (fun Kq hKq => ?_)
      rotate_left
      · simp only [List.getElem?_toArray, List.getElem?_cons_succ, List.getElem?_cons_zero]; rfl
      go_simp
      refine hKq.out _ _ ?_
      clear hKq Kq
      (try simp only [Act.put, List.setIfInBounds_toArray, List.set_cons_zero, List.set_cons_succ])
      refine PX.wpAnyY_done (by kernel_rfl) ?_ _
      refine NoPanic.normal ?_
      have HE := Lib.hid (thence B2.out Hw4.out (Nat.le_refl _))
      clear hHeld
      go_wp2_with fail
      go_ret2
      exact ⟨rfl, HE.out⟩

theorem splitIs : SplitIs where
  check := spCheck_any
  blocks := spBlocks_any
  touch := spTouch_any

end Go.Proofs.Ytbhehicfenkbcaa.PW
