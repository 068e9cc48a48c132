/-
  Layer 6's plain mathematics: configs that may be, and their numbers. No Go.
-/
namespace SK
set_option linter.unusedVariables false

structure Cfg where
  id : Nat
  mem : Int
  chunk : Int
  rows : Int
  log : Int
  heads : Int
deriving DecidableEq

def inB (n lo hi : Int) : Bool := decide (lo ≤ n ∧ n ≤ hi)
theorem inB_iff {n lo hi : Int} : inB n lo hi = true ↔ lo ≤ n ∧ n ≤ hi := by simp [inB]
theorem inB_not {n lo hi : Int} : inB n lo hi = false ↔ ¬ (lo ≤ n ∧ n ≤ hi) := by simp [inB]

def Cfg.mayP (c : Cfg) : Prop := (3 ≤ c.mem ∧ c.mem ≤ 16) ∧ (1 ≤ c.chunk ∧ c.chunk ≤ 8) ∧ (1 ≤ c.rows ∧ c.rows ≤ 8) ∧ (2 ≤ c.heads ∧ c.heads ≤ 8) ∧ (c.mem + 1) * (c.heads + 1) ≤ c.log ∧ c.log ≤ 255
instance (c : Cfg) : Decidable c.mayP := by unfold Cfg.mayP; exact inferInstance
def Cfg.may (c : Cfg) : Bool := decide c.mayP
theorem may_iff {c : Cfg} : c.may = true ↔ c.mayP := by simp [Cfg.may]
theorem may_not {c : Cfg} : c.may = false ↔ ¬ c.mayP := by simp [Cfg.may]
/-- The error. -/
def Cfg.code (c : Cfg) : Nat := if c.may then 0 else 8
theorem code_yes {c : Cfg} (h : c.may = true) : c.code = 0 := by simp [Cfg.code, h]
theorem code_no {c : Cfg} (h : c.may = false) : c.code = 8 := by simp [Cfg.code, h]
def Cfg.stripes (c : Cfg) : Int := c.chunk * c.rows
def Cfg.blocks (c : Cfg) : Int := c.stripes * (c.mem - 1)
def Cfg.need (c : Cfg) : Int := c.mem + 1
def Cfg.member (c : Cfg) : Int := c.stripes + 1
def Cfg.journal (c : Cfg) : Int := c.log + 1
theorem stripes_bd {c : Cfg} (h : c.mayP) : 1 ≤ c.stripes ∧ c.stripes ≤ 64 := by
  obtain ⟨_, ⟨a, b⟩, ⟨d, e⟩, _⟩ := h
  unfold Cfg.stripes
  refine ⟨?_, ?_⟩
  · have := Int.mul_le_mul a d (by omega) (by omega); omega
  · have := Int.mul_le_mul b e (by omega) (by omega); omega
theorem blocks_bd {c : Cfg} (h : c.mayP) : 2 ≤ c.blocks ∧ c.blocks ≤ 960 := by
  obtain ⟨a, b⟩ := stripes_bd h
  obtain ⟨⟨d, e⟩, _⟩ := h
  unfold Cfg.blocks
  refine ⟨?_, ?_⟩
  · have := Int.mul_le_mul a (show 2 ≤ c.mem - 1 by omega) (by omega) (by omega); omega
  · have := Int.mul_le_mul b (show c.mem - 1 ≤ 15 by omega) (by omega) (by omega); omega
theorem room_bd {a b : Int} (h1 : 3 ≤ a ∧ a ≤ 16) (h2 : 2 ≤ b ∧ b ≤ 8) : 12 ≤ (a + 1) * (b + 1) ∧ (a + 1) * (b + 1) ≤ 153 := by
  refine ⟨?_, ?_⟩
  · have := Int.mul_le_mul (show 4 ≤ a + 1 by omega) (show 3 ≤ b + 1 by omega) (by omega) (by omega); omega
  · have := Int.mul_le_mul (show a + 1 ≤ 17 by omega) (show b + 1 ≤ 9 by omega) (by omega) (by omega); omega

/-- Configs alike in all numbers, Heads and Chunk: the same but for the Id. -/
theorem apart {c o : Cfg} (h : c.mayP) (k : o.mayP) (h1 : c.stripes = o.stripes) (h2 : c.blocks = o.blocks) (h3 : c.log = o.log) (h4 : c.heads = o.heads) (h5 : c.chunk = o.chunk) :
    c.mem = o.mem ∧ c.rows = o.rows := by
  have hs := stripes_bd h
  obtain ⟨_, ⟨a, b⟩, _⟩ := h
  unfold Cfg.blocks at h2
  rw [h1] at h2 hs
  have e1 : c.mem - 1 = o.mem - 1 := Int.eq_of_mul_eq_mul_left (by omega) h2
  unfold Cfg.stripes at h1
  rw [h5] at h1 a
  have e2 : c.rows = o.rows := Int.eq_of_mul_eq_mul_left (by omega) h1
  exact ⟨by omega, e2⟩

/-- More room, fewer heads. -/
theorem more {c : Cfg} (h : c.mayP) {m f : Int} (hm : 0 ≤ m) (hf : 0 ≤ f) : ({ c with log := min (c.log + m) 255, heads := max (c.heads - f) 2 } : Cfg).mayP := by
  obtain ⟨a, b, d, e, g, i⟩ := h
  have h1 : (c.mem + 1) * (max (c.heads - f) 2 + 1) ≤ (c.mem + 1) * (c.heads + 1) := Int.mul_le_mul_of_nonneg_left (by omega) (by omega)
  exact ⟨a, b, d, ⟨by show 2 ≤ max _ _; omega, by show max _ _ ≤ 8; omega⟩, by show (c.mem + 1) * (max (c.heads - f) 2 + 1) ≤ min (c.log + m) 255; have := room_bd a e; omega, by show min _ _ ≤ 255; omega⟩
end SK
