/-
  The program's own list of a label's numbers: where each stands, how many bytes it has; all of them laid one behind the other are a label's block. No Go.
-/
import Derived.Test.YtjdcnajppjamgaaLabelMath
namespace Go.Proofs.Ytjdcnajppjamgaa.LB
set_option linter.unusedVariables false
set_option maxRecDepth 100000

/-- Places and sizes. -/
def places : List (Nat × Nat) := [(0, 1), (1, 4), (5, 4), (9, 1), (10, 1), (11, 1), (12, 1), (13, 1), (14, 1), (15, 1), (16, 1)]
def pAt (k : Nat) : Nat := (places.getD k (0, 0)).1
def pSz (k : Nat) : Nat := (places.getD k (0, 0)).2
theorem pl_bd {k : Nat} (h : k < 11) : 1 ≤ pSz k ∧ pSz k ≤ 4 ∧ pAt k + pSz k ≤ 17 ∧ pAt (k + 1) = (if k = 10 then 0 else pAt k + pSz k) := by
  have : k = 0 ∨ k = 1 ∨ k = 2 ∨ k = 3 ∨ k = 4 ∨ k = 5 ∨ k = 6 ∨ k = 7 ∨ k = 8 ∨ k = 9 ∨ k = 10 := by omega
  rcases this with rfl | rfl | rfl | rfl | rfl | rfl | rfl | rfl | rfl | rfl | rfl <;> decide
/-- A number's bytes, the lowest first. -/
def lows (n s : Nat) : List Nat := (List.range s).map fun j => n / 256 ^ j % 256
theorem lows_length (n s : Nat) : (lows n s).length = s := by simp [lows]
theorem lows_get (n s j : Nat) (h : j < s) : (lows n s).getD j 0 = n / 256 ^ j % 256 := by simp [lows, List.getD, h]
/-- The first k numbers of V, laid one behind the other. -/
def hd (V : Nat → Nat) : Nat → List Nat
  | 0 => []
  | k + 1 => hd V k ++ lows (V k) (pSz k)
theorem hd_length (V : Nat → Nat) {k : Nat} (h : k ≤ 10) : (hd V k).length = pAt k := by
  induction k with
  | zero => rfl
  | succ k ih =>
    have := (pl_bd (k := k) (by omega)).2.2.2
    rw [if_neg (by omega)] at this
    rw [this, hd, List.length_append, ih (by omega), lows_length]
theorem wh_nil : PK.wh [] = List.replicate 128 0 := by simp [PK.wh]
theorem wh_wh {l : List Nat} (h : l.length ≤ 128) : PK.wh (PK.wh l) = PK.wh l := PK.wh_full (PK.wh_length h)
/-- A number put behind what is laid. -/
theorem pk_snoc (H : List Nat) (n s : Nat) (h : H.length + s ≤ 128) : PK.pk (PK.wh H) H.length n s = PK.wh (H ++ lows n s) := by
  apply PK.ext_getD
  · rw [PK.pk_length, PK.wh_length (by omega), PK.wh_length (by rw [List.length_append, lows_length]; exact h)]
  intro i hi
  rw [PK.wh_get]
  by_cases h1 : i < H.length
  · rw [PK.pk_out _ _ _ _ _ (.inl h1), PK.wh_get]
    simp only [List.getD]
    rw [List.getElem?_append_left h1]
  · by_cases h2 : i < H.length + s
    · obtain ⟨j, rfl⟩ : ∃ j, i = H.length + j := ⟨i - H.length, by omega⟩
      rw [PK.pk_in _ _ _ _ _ (by omega) (by rw [PK.wh_length (by omega)]; exact h), ← lows_get n s j (by omega)]
      simp only [List.getD]
      rw [List.getElem?_append_right (by omega), Nat.add_sub_cancel_left]
    · rw [PK.pk_out _ _ _ _ _ (.inr (by omega)), PK.wh_get]
      simp only [List.getD]
      rw [List.getElem?_eq_none (by omega), List.getElem?_eq_none (by rw [List.length_append, lows_length]; omega)]
/-- What the block reads as behind k numbers: nothing at first. -/
def puts (V : Nat → Nat) (k : Nat) : List Nat := if k = 0 then [] else PK.wh (hd V k)
theorem hd_le (V : Nat → Nat) {k : Nat} (h : k ≤ 11) : (hd V k).length ≤ 17 := by
  by_cases e : k = 11
  · subst e
    rw [hd, List.length_append, hd_length V (by omega), lows_length]
    have := (pl_bd (k := 10) (by omega)).2.2.1
    omega
  · rw [hd_length V (by omega)]
    by_cases e2 : k = 0
    · subst e2; decide
    · have := (pl_bd (k := k) (by omega)).2.2.1
      omega
theorem puts_wh (V : Nat → Nat) {k : Nat} (h : k ≤ 11) : PK.wh (puts V k) = PK.wh (hd V k) := by
  unfold puts
  by_cases e : k = 0
  · subst e; rfl
  · rw [if_neg e, wh_wh (by have := hd_le V h; omega)]
theorem puts_len (V : Nat → Nat) {k : Nat} (h : k ≤ 11) : (puts V k).length = 0 ∨ (puts V k).length = 128 := by
  unfold puts
  by_cases e : k = 0
  · subst e; exact .inl rfl
  · rw [if_neg e]; exact .inr (PK.wh_length (by have := hd_le V h; omega))
theorem puts_full (V : Nat → Nat) {k : Nat} (h : k ≤ 11) (h0 : k ≠ 0) : (puts V k).length = 128 := by
  unfold puts
  rw [if_neg h0]
  exact PK.wh_length (by have := hd_le V h; omega)
theorem puts_step (V : Nat → Nat) {k : Nat} (h : k < 11) : PK.pk (PK.wh (puts V k)) (pAt k) (V k) (pSz k) = puts V (k + 1) := by
  rw [puts_wh V (by omega), ← hd_length V (k := k) (by omega), pk_snoc _ _ _ (by rw [hd_length V (by omega)]; have := (pl_bd h).2.2.1; omega)]
  rfl
/-- A label's numbers. -/
def Lab.num (L : Lab) (k : Nat) : Nat := [76, L.id, L.ev, L.mem.toNat, L.chunk.toNat, L.rows.toNat, L.log.toNat, L.me.toNat, wire L.lost, L.done.toNat, bit L.op].getD k 0
theorem lows_one {n : Nat} (h : n < 256) : lows n 1 = [n] := by simp [lows]; omega
theorem lows_four {n : Nat} (h : n < 4294967296) : lows n 4 = PM.own4 n := by
  simp [lows, PM.own4, List.range, List.range.loop]; omega
theorem num_bd {L : Lab} (h : L.mayP) (hi : L.id < 4294967296) {k : Nat} (hk : k < 11) : L.num k < 256 ^ pSz k := by
  obtain ⟨⟨⟨a, b⟩, ⟨c, d⟩, ⟨e, f⟩, _, g, i⟩, j, m, n, o⟩ := h
  dsimp only [Lab.cfg] at a b c d e f g i
  have := Int.mul_le_mul d f (by omega) (by omega)
  have hw : wire L.lost < 256 := by unfold wire; split <;> omega
  have hb : bit L.op < 256 := by unfold bit; split <;> decide
  have : k = 0 ∨ k = 1 ∨ k = 2 ∨ k = 3 ∨ k = 4 ∨ k = 5 ∨ k = 6 ∨ k = 7 ∨ k = 8 ∨ k = 9 ∨ k = 10 := by omega
  rcases this with rfl | rfl | rfl | rfl | rfl | rfl | rfl | rfl | rfl | rfl | rfl
  · show 76 < 256 ^ 1; decide
  · show L.id < 256 ^ 4; omega
  · show L.ev < 256 ^ 4; omega
  · show L.mem.toNat < 256 ^ 1; omega
  · show L.chunk.toNat < 256 ^ 1; omega
  · show L.rows.toNat < 256 ^ 1; omega
  · show L.log.toNat < 256 ^ 1; omega
  · show L.me.toNat < 256 ^ 1; omega
  · show wire L.lost < 256 ^ 1; omega
  · show L.done.toNat < 256 ^ 1; omega
  · show bit L.op < 256 ^ 1; omega
theorem num_four {L : Lab} (h : L.mayP) (hi : L.id < 4294967296) {k : Nat} (hk : k < 11) : L.num k < 4294967296 := by
  have h1 := num_bd h hi hk
  have h2 := (pl_bd hk).2.1
  have := Nat.pow_le_pow_right (n := 256) (by decide) h2
  omega
/-- All of them are the label's head. -/
theorem hd_head {L : Lab} (h : L.mayP) (hi : L.id < 4294967296) : hd L.num 11 = L.head := by
  have b := fun k hk => num_bd h hi (k := k) hk
  have e : hd L.num 11 = lows (L.num 0) 1 ++ lows (L.num 1) 4 ++ lows (L.num 2) 4 ++ lows (L.num 3) 1 ++ lows (L.num 4) 1 ++ lows (L.num 5) 1 ++ lows (L.num 6) 1 ++ lows (L.num 7) 1 ++ lows (L.num 8) 1 ++ lows (L.num 9) 1 ++ lows (L.num 10) 1 := rfl
  rw [e, lows_one (b 0 (by decide)), lows_four (b 1 (by decide)), lows_four (b 2 (by decide)), lows_one (b 3 (by decide)), lows_one (b 4 (by decide)), lows_one (b 5 (by decide)), lows_one (b 6 (by decide)), lows_one (b 7 (by decide)), lows_one (b 8 (by decide)), lows_one (b 9 (by decide)), lows_one (b 10 (by decide))]
  rfl
theorem puts_head {L : Lab} (h : L.mayP) (hi : L.id < 4294967296) : puts L.num 11 = PK.wh L.head := by
  unfold puts
  rw [if_neg (by decide), hd_head h hi]
theorem puts_block {L : Lab} (h : L.mayP) (hi : L.id < 4294967296) : PK.pk (PK.wh (puts L.num 11)) 124 (PM.over 0 ((puts L.num 11).take 124)) 4 = L.block := by
  rw [puts_wh _ (by decide), hd_head h hi, puts_head h hi]; rfl
theorem puts_bytes {V : Nat → Nat} {k : Nat} : ∀ x ∈ puts V k, x < 256 := by
  unfold puts
  split
  · intro x hx; cases hx
  · apply PK.wh_bytes
    induction k with
    | zero => intro x hx; cases hx
    | succ k ih =>
      intro x hx
      rw [hd] at hx
      rcases List.mem_append.1 hx with h | h
      · by_cases e : k = 0
        · subst e; cases h
        · exact ih e x h
      · obtain ⟨j, -, rfl⟩ := List.mem_map.1 h
        omega
/-- What is read of a block: its numbers, the first k of them. -/
def red (m : List Nat) (k : Nat) : List Nat := (List.range 11).map fun j => if j < k then PK.tv m (pAt j) (pSz j) else 0
theorem red_zero (m : List Nat) : red m 0 = [0, 0, 0, 0, 0, 0, 0, 0, 0, 0, 0] := by simp [red, List.range, List.range.loop]
theorem red_step (m : List Nat) {k : Nat} (h : k < 11) : (red m k).set k (PK.tv m (pAt k) (pSz k)) = red m (k + 1) := by
  unfold red
  apply List.ext_getElem?
  intro i
  rw [List.getElem?_set]
  simp only [List.length_map, List.length_range, List.getElem?_map]
  by_cases e : k = i
  · subst e
    rw [if_pos rfl, if_pos h, List.getElem?_range h]
    simp
  · rw [if_neg e]
    by_cases hi : i < 11
    · rw [List.getElem?_range hi]
      have : (i < k) ↔ (i < k + 1) := by omega
      simp [this]
    · rw [List.getElem?_eq_none (by simpa using hi)]; rfl
theorem red_all (m : List Nat) : red m 11 = [PK.tv m 0 1, PK.tv m 1 4, PK.tv m 5 4, PK.tv m 9 1, PK.tv m 10 1, PK.tv m 11 1, PK.tv m 12 1, PK.tv m 13 1, PK.tv m 14 1, PK.tv m 15 1, PK.tv m 16 1] := rfl
theorem tv_one (m : List Nat) (a : Nat) : PK.tv m a 1 = m.getD a 0 := by simp [PK.tv]
end Go.Proofs.Ytjdcnajppjamgaa.LB
