/-
  Layer 8's plain mathematics: requests that may be, their blocks, and who touches. No Go.
-/
import Derived.Test.YtbhehicfenkbcaaShapeMath
namespace QK
open SK (Cfg)
set_option linter.unusedVariables false

def wr (k : Nat) : Bool := k == 2 || k == 3 || k == 5
def bts (k : Nat) : Bool := k == 2 || k == 3
def wh (k : Nat) : Bool := k == 4 || k == 6
theorem bts_no {k : Nat} (h : bts k = false) : k ≠ 2 ∧ k ≠ 3 := by simpa [bts] using h
theorem bts_yes {k : Nat} (h : bts k = true) : k = 2 ∨ k = 3 := by simpa [bts] using h
/-- Kind and place are as they may be. -/
def placedP (c : Cfg) (k : Nat) (at_ many : Int) : Prop :=
  (1 ≤ k ∧ k ≤ 6) ∧ ((wh k = true ∧ at_ = 0 ∧ many = 0) ∨ (wh k = false ∧ 1 ≤ many ∧ many ≤ 8 ∧ 0 ≤ at_ ∧ at_ ≤ c.blocks - many))
instance (c : Cfg) (k : Nat) (at_ many : Int) : Decidable (placedP c k at_ many) := by unfold placedP; exact inferInstance
def placed (c : Cfg) (k : Nat) (at_ many : Int) : Bool := decide (placedP c k at_ many)
theorem placed_iff {c : Cfg} {k : Nat} {at_ many : Int} : placed c k at_ many = true ↔ placedP c k at_ many := by simp [placed]
theorem placed_not {c : Cfg} {k : Nat} {at_ many : Int} : placed c k at_ many = false ↔ ¬ placedP c k at_ many := by simp [placed]
theorem placed_no_k {c : Cfg} {k : Nat} {at_ many : Int} (h : ¬ (1 ≤ k ∧ k ≤ 6)) : placed c k at_ many = false := placed_not.2 fun p => h p.1
theorem placed_no_wh {c : Cfg} {k : Nat} {at_ many : Int} (hw : wh k = true) (h : ¬ (at_ = 0 ∧ many = 0)) : placed c k at_ many = false := placed_not.2 fun p => by
  rcases p.2 with ⟨_, q⟩ | ⟨q, _⟩
  · exact h q
  · rw [hw] at q; cases q
theorem placed_no {c : Cfg} {k : Nat} {at_ many : Int} (hw : wh k = false) (h : ¬ (1 ≤ many ∧ many ≤ 8 ∧ 0 ≤ at_ ∧ at_ ≤ c.blocks - many)) : placed c k at_ many = false := placed_not.2 fun p => by
  rcases p.2 with ⟨q, _⟩ | ⟨_, q⟩
  · rw [hw] at q; cases q
  · exact h q
/-- How many bytes there must be. -/
def need (k : Nat) (many : Int) : Int := if bts k = true then many * 128 else 0
def code (c : Cfg) (k : Nat) (at_ many : Int) (n : Nat) : Nat :=
  if c.may = true then (if placed c k at_ many = true then (if (n : Int) = need k many then 0 else 3) else 2) else 8
theorem code_iff {c : Cfg} {k : Nat} {at_ many : Int} {n : Nat} : code c k at_ many n = 0 ↔ c.mayP ∧ placedP c k at_ many ∧ (n : Int) = need k many := by
  unfold code
  by_cases h1 : c.may = true
  · rw [if_pos h1]
    by_cases h2 : placed c k at_ many = true
    · rw [if_pos h2]
      by_cases h3 : (n : Int) = need k many
      · rw [if_pos h3]; exact ⟨fun _ => ⟨SK.may_iff.1 h1, placed_iff.1 h2, h3⟩, fun _ => rfl⟩
      · rw [if_neg h3]; exact ⟨(fun e => by cases e), fun e => absurd e.2.2 h3⟩
    · rw [if_neg h2]; exact ⟨(fun e => by cases e), fun e => absurd (placed_iff.2 e.2.1) h2⟩
  · rw [if_neg h1]; exact ⟨(fun e => by cases e), fun e => absurd (SK.may_iff.2 e.1) h1⟩
/-- The blocks of a request. -/
def blks (at_ many : Int) : List Int := (List.range many.toNat).map fun (i : Nat) => at_ + (i : Int)
theorem blks_length {at_ many : Int} : (blks at_ many).length = many.toNat := by simp [blks]
theorem blks_get {at_ many : Int} {i : Nat} (h : i < many.toNat) : (blks at_ many).getD i 0 = at_ + i := by simp [blks, List.getD, h]
/-- Two requests that may be touch. -/
def meet (k : Nat) (at_ many : Int) (k' : Nat) (at' many' : Int) : Bool := (wr k || wr k') && decide (at_ < at' + many' ∧ at' < at_ + many)
theorem meet_comm {k : Nat} {at_ many : Int} {k' : Nat} {at' many' : Int} : meet k at_ many k' at' many' = meet k' at' many' k at_ many := by
  unfold meet
  rw [Bool.or_comm]
  congr 1
  rw [decide_eq_decide]
  omega
theorem meet_no {k : Nat} {at_ many : Int} {k' : Nat} {at' many' : Int} (h : wr k = false) (h' : wr k' = false) : meet k at_ many k' at' many' = false := by unfold meet; rw [h, h']; rfl
theorem meet_self {c : Cfg} {k : Nat} {at_ many : Int} (p : placedP c k at_ many) : meet k at_ many k at_ many = wr k := by
  unfold meet
  cases hw : wr k with
  | false => rfl
  | true =>
    rcases p.2 with ⟨h, _⟩ | ⟨_, h1, h2, h3, h4⟩
    · simp [wr, wh] at hw h; omega
    · simp; omega
def tcode (c : Cfg) (k : Nat) (at_ many : Int) (n : Nat) (k' : Nat) (at' many' : Int) (n' : Nat) : Nat := if code c k at_ many n = 0 then code c k' at' many' n' else code c k at_ many n
/-- The range of what may be. -/
theorem placed_bd {c : Cfg} {k : Nat} {at_ many : Int} (h : c.mayP) (p : placedP c k at_ many) : 0 ≤ at_ ∧ at_ ≤ 960 ∧ 0 ≤ many ∧ many ≤ 8 ∧ (many = 0 → at_ = 0) ∧ at_ + many ≤ c.blocks := by
  have := SK.blocks_bd h
  rcases p.2 with ⟨_, h1, h2⟩ | ⟨_, h1, h2, h3, h4⟩ <;> omega
theorem code_of {c : Cfg} {k : Nat} {at_ many : Int} {n : Nat} (h : (n : Int) = need k many) : code c k at_ many n = if c.may = true then (if placed c k at_ many = true then 0 else 2) else 8 := by
  unfold code
  simp only [if_pos h]
theorem code_other {c : Cfg} {k : Nat} {at_ many : Int} {n m : Nat} (h : c.mayP ∧ placedP c k at_ many ∧ (n : Int) = need k many) (hm : m ≠ n) : code c k at_ many m = 3 := by
  unfold code
  rw [if_pos (SK.may_iff.2 h.1), if_pos (placed_iff.2 h.2.1), if_neg (by rw [← h.2.2]; omega)]
/-- x is one of k numbers from a on. -/
def inn (x a : Int) : Nat → Bool
  | 0 => false
  | k + 1 => inn x a k || (x == a + k)
/-- One of i numbers from a on is one of m from a' on. -/
def met (a a' : Int) (m : Nat) : Nat → Bool
  | 0 => false
  | i + 1 => met a a' m i || inn (a + i) a' m
theorem inn_iff {x a : Int} {k : Nat} : inn x a k = true ↔ a ≤ x ∧ x < a + k := by
  induction k with
  | zero => simp [inn]
            try omega
  | succ k ih =>
    unfold inn
    rw [Bool.or_eq_true, ih, beq_iff_eq]
    omega
theorem met_iff {a a' : Int} {m i : Nat} : met a a' m i = true ↔ ∃ j : Nat, j < i ∧ a' ≤ a + j ∧ a + j < a' + m := by
  induction i with
  | zero => simp [met]
  | succ i ih =>
    unfold met
    rw [Bool.or_eq_true, ih, inn_iff]
    constructor
    · rintro (⟨j, h1, h2⟩ | h)
      · exact ⟨j, by omega, h2⟩
      · exact ⟨i, by omega, h⟩
    · rintro ⟨j, h1, h2⟩
      by_cases e : j = i
      · subst e; exact .inr h2
      · exact .inl ⟨j, by omega, h2⟩
theorem met_all {a a' : Int} {m m' : Nat} (h0 : 0 ≤ a) (h1 : 0 ≤ a') (hm : m = 0 → a = 0) (hm' : m' = 0 → a' = 0) : met a a' m' m = decide (a < a' + m' ∧ a' < a + m) := by
  rw [Bool.eq_iff_iff, met_iff, decide_eq_true_iff]
  constructor
  · rintro ⟨j, h2, h3, h4⟩; omega
  · rintro ⟨h2, h3⟩
    by_cases e : a' ≤ a
    · exact ⟨0, by omega, by omega, by omega⟩
    · exact ⟨(a' - a).toNat, by omega, by omega, by omega⟩
end QK
