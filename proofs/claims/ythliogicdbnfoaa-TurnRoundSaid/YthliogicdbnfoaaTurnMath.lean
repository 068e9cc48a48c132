/-
  Layer 7's plain mathematics: where blocks, slots and parities stand. No Go.
-/
import Derived.Test.YthliogicdbnfoaaShapeMath
namespace TK
open SK (Cfg)
set_option linter.unusedVariables false

def spotStripe (c : Cfg) (b : Int) : Int := b / c.chunk / (c.mem - 1) * c.chunk + b % c.chunk
def spotSlot (c : Cfg) (b : Int) : Int := b / c.chunk % (c.mem - 1)
def spotMember (c : Cfg) (b : Int) : Int := b / c.chunk % c.mem
def blockAt (c : Cfg) (s k : Int) : Int := (s / c.chunk * (c.mem - 1) + k) * c.chunk + s % c.chunk
def rest (c : Cfg) (s : Int) : Int := s / c.chunk % c.mem
def parityOf (c : Cfg) (s : Int) : Int := c.mem - 1 - rest c s
def memberOf (c : Cfg) (s k : Int) : Int := (c.mem - rest c s + k) % c.mem
def slotOf (c : Cfg) (s m : Int) : Int := (m + rest c s) % c.mem

theorem mod2 {x n : Int} (h0 : 0 ≤ x) (h : x < 2 * n) : x % n = if x < n then x else x - n := by
  by_cases g : x < n
  · rw [if_pos g, Int.emod_eq_of_lt h0 g]
  · rw [if_neg g, ← Int.sub_emod_right x n, Int.emod_eq_of_lt (by omega) (by omega)]
theorem quo_rem {a b q r : Int} (hb : 0 < b) (h0 : 0 ≤ r) (h1 : r < b) (e : q * b + r = a) : a / b = q ∧ a % b = r :=
  (Int.ediv_emod_unique hb).2 ⟨by rw [← e, Int.mul_comm]; omega, h0, h1⟩
theorem back {a b : Int} : a / b * b + a % b = a := by rw [Int.mul_comm]; exact Int.mul_ediv_add_emod a b
theorem quo_lt {a b n : Int} (hb : 0 < b) (h : a < b * n) : a / b < n := Int.ediv_lt_of_lt_mul hb (by rw [Int.mul_comm]; exact h)
theorem quo_nn {a b : Int} (hb : 0 < b) (h : 0 ≤ a) : 0 ≤ a / b := Int.ediv_nonneg h (by omega)
theorem rem_bd {a b : Int} (hb : 0 < b) : 0 ≤ a % b ∧ a % b < b := ⟨Int.emod_nonneg _ (by omega), Int.emod_lt_of_pos _ hb⟩

theorem blocks_eq {c : Cfg} : c.blocks = c.chunk * (c.rows * (c.mem - 1)) := by unfold Cfg.blocks Cfg.stripes; rw [Int.mul_assoc]
/-- The member of a slot, as chunks go round. -/
theorem on_eq {c : Cfg} {s k : Int} : (s / c.chunk * (c.mem - 1) + k) % c.mem = memberOf c s k := by
  unfold memberOf rest
  have e := Int.mul_ediv_add_emod (s / c.chunk) c.mem
  generalize s / c.chunk = r at *
  have : r * (c.mem - 1) + k = (c.mem - r % c.mem + k) + c.mem * (r - r / c.mem - 1) := by
    have e2 : r * (c.mem - 1) = r * c.mem - r := by rw [Int.mul_sub, Int.mul_one]
    have e3 : c.mem * (r - r / c.mem - 1) = r * c.mem - c.mem * (r / c.mem) - c.mem := by rw [Int.mul_sub, Int.mul_sub, Int.mul_one, Int.mul_comm c.mem r]
    rw [e2, e3]; omega
  rw [this, Int.add_mul_emod_self_left]
section
variable {c : Cfg} (h : c.mayP)
include h
theorem bds : 0 < c.chunk ∧ c.chunk ≤ 8 ∧ 3 ≤ c.mem ∧ c.mem ≤ 16 ∧ 0 < c.mem - 1 ∧ 1 ≤ c.rows ∧ c.rows ≤ 8 := ⟨by have := h.2.1; omega, h.2.1.2, h.1.1, h.1.2, by have := h.1.1; omega, h.2.2.1.1, h.2.2.1.2⟩
theorem row_bd {s : Int} (h0 : 0 ≤ s) (h1 : s < c.stripes) : 0 ≤ s / c.chunk ∧ s / c.chunk < c.rows ∧ s / c.chunk ≤ 7 := by
  obtain ⟨a, _, _, _, _, _, d⟩ := bds h
  have := quo_lt a h1
  exact ⟨quo_nn a h0, this, by omega⟩
theorem rest_bd (s : Int) : 0 ≤ rest c s ∧ rest c s < c.mem := by
  obtain ⟨_, _, a, _⟩ := bds h
  exact rem_bd (by omega)
theorem chunk_bd {b : Int} (h0 : 0 ≤ b) (h1 : b < c.blocks) : 0 ≤ b / c.chunk ∧ b / c.chunk < c.rows * (c.mem - 1) ∧ b / c.chunk / (c.mem - 1) < c.rows ∧ 0 ≤ b / c.chunk / (c.mem - 1) := by
  obtain ⟨a, _, _, _, d, _⟩ := bds h
  rw [blocks_eq] at h1
  have h2 := quo_lt a h1
  have h3 := quo_nn a h0
  exact ⟨h3, h2, quo_lt d (by rw [Int.mul_comm]; exact h2), quo_nn d h3⟩
/-- Where a block stands is in range. -/
theorem spot_bd {b : Int} (h0 : 0 ≤ b) (h1 : b < c.blocks) : 0 ≤ spotStripe c b ∧ spotStripe c b < c.stripes ∧ 0 ≤ spotSlot c b ∧ spotSlot c b < c.mem - 1 ∧ 0 ≤ spotMember c b ∧ spotMember c b < c.mem := by
  obtain ⟨a, _, e, _, d, _⟩ := bds h
  obtain ⟨h3, h4, h5, h6⟩ := chunk_bd h h0 h1
  have r1 := rem_bd (a := b) a
  have r2 := rem_bd (a := b / c.chunk) d
  have r3 := rem_bd (a := b / c.chunk) (show 0 < c.mem by omega)
  have m1 : 0 ≤ b / c.chunk / (c.mem - 1) * c.chunk := Int.mul_nonneg h6 (by omega)
  have m2 : (b / c.chunk / (c.mem - 1) + 1) * c.chunk ≤ c.rows * c.chunk := Int.mul_le_mul_of_nonneg_right (by omega) (by omega)
  rw [Int.add_mul, Int.one_mul] at m2
  have m3 : c.stripes = c.rows * c.chunk := Int.mul_comm _ _
  unfold spotStripe spotSlot spotMember
  exact ⟨by omega, by omega, r2.1, r2.2, r3.1, r3.2⟩
theorem spot_row {b : Int} : spotStripe c b / c.chunk = b / c.chunk / (c.mem - 1) ∧ spotStripe c b % c.chunk = b % c.chunk := by
  obtain ⟨a, _⟩ := bds h
  have r1 := rem_bd (a := b) a
  exact quo_rem a r1.1 r1.2 rfl
/-- A block stands just where it is said. -/
theorem at_iff {b s k : Int} (hk0 : 0 ≤ k) (hk : k < c.mem - 1) : blockAt c s k = b ↔ s = spotStripe c b ∧ k = spotSlot c b := by
  obtain ⟨a, _, _, _, d, _⟩ := bds h
  have r1 := rem_bd (a := s) a
  constructor
  · intro e
    obtain ⟨e1, e2⟩ := quo_rem a r1.1 r1.2 e
    obtain ⟨e3, e4⟩ := quo_rem d hk0 hk e1.symm
    refine ⟨?_, ?_⟩
    · unfold spotStripe; rw [e3, e2, back]
    · unfold spotSlot; rw [e4]
  · rintro ⟨rfl, rfl⟩
    unfold blockAt
    rw [(spot_row h).1, (spot_row h).2]
    unfold spotSlot
    rw [back, back]
theorem block_bd {s k : Int} (h0 : 0 ≤ s) (h1 : s < c.stripes) (hk0 : 0 ≤ k) (hk : k < c.mem - 1) : 0 ≤ blockAt c s k ∧ blockAt c s k < c.blocks := by
  obtain ⟨a, _, _, _, d, _⟩ := bds h
  obtain ⟨p0, p1, _⟩ := row_bd h h0 h1
  have r1 := rem_bd (a := s) a
  have m0 : 0 ≤ s / c.chunk * (c.mem - 1) := Int.mul_nonneg p0 (by omega)
  have m1 : (s / c.chunk + 1) * (c.mem - 1) ≤ c.rows * (c.mem - 1) := Int.mul_le_mul_of_nonneg_right (by omega) (by omega)
  rw [Int.add_mul, Int.one_mul] at m1
  have m2 : 0 ≤ (s / c.chunk * (c.mem - 1) + k) * c.chunk := Int.mul_nonneg (by omega) (by omega)
  have m3 : (s / c.chunk * (c.mem - 1) + k + 1) * c.chunk ≤ c.rows * (c.mem - 1) * c.chunk := Int.mul_le_mul_of_nonneg_right (by omega) (by omega)
  rw [Int.add_mul _ 1, Int.one_mul] at m3
  rw [blocks_eq, Int.mul_comm c.chunk]
  unfold blockAt
  exact ⟨by omega, by omega⟩
theorem member_bd (s k : Int) : 0 ≤ memberOf c s k ∧ memberOf c s k < c.mem := rem_bd (by have := bds h; omega)
theorem slot_bd (s m : Int) : 0 ≤ slotOf c s m ∧ slotOf c s m < c.mem := rem_bd (by have := bds h; omega)
theorem parity_bd (s : Int) : 0 ≤ parityOf c s ∧ parityOf c s < c.mem := by have := rest_bd h s; unfold parityOf; omega
theorem member_last (s : Int) : memberOf c s (c.mem - 1) = parityOf c s := by
  have := rest_bd h s
  have hb := bds h
  unfold memberOf parityOf
  rw [mod2 (by omega) (by omega), if_neg (by omega)]; omega
theorem member_slot {s m : Int} (h0 : 0 ≤ m) (h1 : m < c.mem) : memberOf c s (slotOf c s m) = m := by
  have := rest_bd h s
  have hb := bds h
  unfold memberOf slotOf
  rw [mod2 (x := m + rest c s) (by omega) (by omega)]
  split
  · rw [mod2 (by omega) (by omega)]; split <;> omega
  · rw [mod2 (by omega) (by omega)]; split <;> omega
theorem slot_member {s k : Int} (h0 : 0 ≤ k) (h1 : k < c.mem) : slotOf c s (memberOf c s k) = k := by
  have := rest_bd h s
  have hb := bds h
  unfold memberOf slotOf
  rw [mod2 (x := c.mem - rest c s + k) (by omega) (by omega)]
  split
  · rw [mod2 (by omega) (by omega)]; split <;> omega
  · rw [mod2 (by omega) (by omega)]; split <;> omega
theorem slot_last {s m : Int} (h0 : 0 ≤ m) (h1 : m < c.mem) : slotOf c s m = c.mem - 1 ↔ parityOf c s = m := by
  have := rest_bd h s
  have hb := bds h
  unfold parityOf slotOf
  rw [mod2 (by omega) (by omega)]
  split <;> omega
theorem spot_member {b : Int} : memberOf c (spotStripe c b) (spotSlot c b) = spotMember c b := by
  rw [← on_eq, (spot_row h).1]
  unfold spotSlot spotMember
  rw [back]
end

/-- The members of the first so many slots, put together. -/
def used (c : Cfg) (s : Int) : Nat → Int
  | 0 => 0
  | j + 1 => used c s j + memberOf c s j
def usedN (n r : Nat) : Nat → Nat
  | 0 => 0
  | j + 1 => usedN n r j + (n - r + j) % n
def usedOk (n : Nat) : Bool := (List.range n).all fun r => n * (n - 1) / 2 == usedN n r (n - 1) + (n - 1 - r)
theorem used_all : ∀ n, n < 17 → usedOk n = true := by decide +kernel
theorem used_nat {c : Cfg} {s : Int} {n r : Nat} (hn : c.mem = n) (hr : rest c s = r) (hlt : r < n) (j : Nat) : used c s j = usedN n r j := by
  induction j with
  | zero => rfl
  | succ j ih =>
    unfold used usedN
    rw [ih]
    unfold memberOf
    rw [hn, hr]
    have : ((n : Int) - r + j) = ((n - r + j : Nat) : Int) := by omega
    rw [this]
    omega
theorem used_last {c : Cfg} (h : c.mayP) (s : Int) {j : Nat} (hj : (j : Int) = c.mem - 1) : c.mem * (c.mem - 1) / 2 - used c s j = parityOf c s := by
  have hb := bds h
  have hr := rest_bd h s
  obtain ⟨n, hn⟩ := Int.eq_ofNat_of_zero_le (show 0 ≤ c.mem by omega)
  obtain ⟨r, hr'⟩ := Int.eq_ofNat_of_zero_le hr.1
  have h1 := List.all_eq_true.1 (used_all n (by omega)) r (List.mem_range.2 (by omega))
  simp only [beq_iff_eq] at h1
  obtain rfl : j = n - 1 := by omega
  rw [used_nat hn hr' (by omega)]
  unfold parityOf
  rw [hn, hr']
  have e : ((n : Int) * (n - 1)) = ((n * (n - 1) : Nat) : Int) := by
    rw [Int.natCast_mul]
    have : ((n - 1 : Nat) : Int) = (n : Int) - 1 := by omega
    rw [this]
  rw [e]
  omega
theorem used_bd {c : Cfg} (h : c.mayP) (s : Int) (j : Nat) : 0 ≤ used c s j ∧ used c s j ≤ 16 * j := by
  induction j with
  | zero => exact ⟨Int.le_refl _, Int.le_refl _⟩
  | succ j ih =>
    have := member_bd h s j
    have := bds h
    unfold used
    omega

section
variable {c : Cfg} (h : c.mayP)
include h
/-- The next block of the same chunk, and of the next one. -/
theorem next_same {b : Int} (g : ¬ (b + 1) % c.chunk = 0) : spotStripe c (b + 1) = spotStripe c b + 1 ∧ spotSlot c (b + 1) = spotSlot c b ∧ spotMember c (b + 1) = spotMember c b := by
  obtain ⟨a, _⟩ := bds h
  have r1 := rem_bd (a := b) a
  have e := back (a := b) (b := c.chunk)
  have hlt : b % c.chunk + 1 < c.chunk := by
    by_cases hx : b % c.chunk + 1 < c.chunk
    · exact hx
    · exfalso
      apply g
      have e2 : b + 1 = (b / c.chunk + 1) * c.chunk := by rw [Int.add_mul, Int.one_mul]; omega
      rw [e2, Int.mul_emod_left]
  obtain ⟨q1, q2⟩ := quo_rem (a := b + 1) (q := b / c.chunk) (r := b % c.chunk + 1) a (by omega) hlt (by omega)
  unfold spotStripe spotSlot spotMember
  rw [q1, q2]
  exact ⟨by omega, rfl, rfl⟩
theorem next_new {b : Int} (g : (b + 1) % c.chunk = 0) : spotMember c (b + 1) = (spotMember c b + 1) % c.mem := by
  obtain ⟨a, _, d, _⟩ := bds h
  have r1 := rem_bd (a := b) a
  have e := back (a := b) (b := c.chunk)
  have hge : b % c.chunk + 1 = c.chunk := by
    by_cases hx : b % c.chunk + 1 < c.chunk
    · obtain ⟨q1, q2⟩ := quo_rem (a := b + 1) (q := b / c.chunk) (r := b % c.chunk + 1) a (by omega) hx (by omega)
      omega
    · omega
  have e2 : b + 1 = (b / c.chunk + 1) * c.chunk := by rw [Int.add_mul, Int.one_mul]; omega
  unfold spotMember
  rw [e2, Int.mul_ediv_cancel _ (by omega), Int.emod_add_emod]
theorem parity_on {s i : Int} : (parityOf c (s + i * c.chunk) = parityOf c s) ↔ i % c.mem = 0 := by
  obtain ⟨a, _⟩ := bds h
  unfold parityOf rest
  rw [Int.add_mul_ediv_right _ _ (by omega)]
  have := Int.emod_eq_emod_iff_emod_sub_eq_zero (m := s / c.chunk + i) (n := c.mem) (k := s / c.chunk)
  rw [show s / c.chunk + i - s / c.chunk = i from by omega] at this
  rw [← this]
  omega
theorem parity_row {s : Int} (h0 : 0 ≤ s) : parityOf c (s / c.chunk * c.chunk) = parityOf c s ∧ 0 ≤ s / c.chunk * c.chunk ∧ s / c.chunk * c.chunk ≤ s := by
  obtain ⟨a, _⟩ := bds h
  have r1 := rem_bd (a := s) a
  have e := back (a := s) (b := c.chunk)
  refine ⟨?_, Int.mul_nonneg (quo_nn a h0) (by omega), by omega⟩
  unfold parityOf rest
  rw [Int.mul_ediv_cancel _ (by omega)]
end
end TK
