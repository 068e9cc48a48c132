/-
  Layer 9's plain mathematics: labels that may be, and their blocks. No Go.
-/
import Derived.Test.YtjdcnajppjamgaaSealMath
import Derived.Test.YtjdcnajppjamgaaShapeMath
namespace Go.Proofs.Ytjdcnajppjamgaa.LB
set_option linter.unusedVariables false
set_option maxRecDepth 100000

structure Lab where
  id : Nat
  ev : Nat
  mem : Int
  chunk : Int
  rows : Int
  log : Int
  me : Int
  lost : Int
  done : Int
  op : Bool
deriving DecidableEq

def Lab.zero : Lab := ⟨0, 0, 0, 0, 0, 0, 0, 0, 0, false⟩
def Lab.cfg (L : Lab) : SK.Cfg := ⟨L.id, L.mem, L.chunk, L.rows, L.log, 2⟩
def Lab.mayP (L : Lab) : Prop := L.cfg.mayP ∧ L.ev ≤ 2147483648 ∧ 0 ≤ L.me ∧ L.me < L.mem ∧ (L.lost = -1 ∧ L.done = 0 ∨ 0 ≤ L.lost ∧ L.lost < L.mem ∧ 0 ≤ L.done ∧ L.done ≤ L.chunk * L.rows)
instance (L : Lab) : Decidable L.mayP := by unfold Lab.mayP; exact inferInstance
def Lab.may (L : Lab) : Bool := decide L.mayP
theorem may_iff {L : Lab} : L.may = true ↔ L.mayP := by simp [Lab.may]
theorem may_not {L : Lab} : L.may = false ↔ ¬ L.mayP := by simp [Lab.may]
def Lab.code (L : Lab) : Nat := if L.may = true then 0 else 8
theorem code_yes {L : Lab} (h : L.may = true) : L.code = 0 := by simp [Lab.code, h]
theorem code_no {L : Lab} (h : L.may = false) : L.code = 8 := by simp [Lab.code, h]
def wire (n : Int) : Nat := if 0 ≤ n then n.toNat else 255
def bit (b : Bool) : Nat := if b = true then 1 else 0
def Lab.head (L : Lab) : List Nat := [76] ++ PM.own4 L.id ++ PM.own4 L.ev ++ [L.mem.toNat, L.chunk.toNat, L.rows.toNat, L.log.toNat, L.me.toNat, wire L.lost, L.done.toNat, bit L.op]
def Lab.block (L : Lab) : List Nat := SL.sld L.head
/-- What it writes: none, if it may not be. -/
def Lab.text (L : Lab) : List Nat := if L.may = true then L.block else []
theorem text_yes {L : Lab} (h : L.may = true) : L.text = L.block := by simp [Lab.text, h]
theorem text_no {L : Lab} (h : L.may = false) : L.text = [] := by simp [Lab.text, h]
def parse (m : List Nat) : Lab :=
  ⟨PK.tv m 1 4, PK.tv m 5 4, m.getD 9 0, m.getD 10 0, m.getD 11 0, m.getD 12 0, m.getD 13 0, if m.getD 14 0 = 255 then -1 else m.getD 14 0, m.getD 15 0, decide (m.getD 16 0 = 1)⟩
def good (m : List Nat) : Bool := (parse m).may && decide ((parse m).block = m)
def rd (l : List Nat) : Lab × Nat := if l.length ≠ 0 ∧ l.length ≠ 128 then (Lab.zero, 3) else if good (PK.wh l) = true then (parse (PK.wh l), 0) else (Lab.zero, 90)

theorem head_length (L : Lab) : L.head.length = 17 := rfl
theorem head_bytes {L : Lab} (h : L.mayP) (hi : L.id < 4294967296) : SL.Bytes L.head := by
  obtain ⟨⟨⟨a, b⟩, ⟨c, d⟩, ⟨e, f⟩, _, g, i⟩, j, k, m, n⟩ := h
  dsimp only [Lab.cfg] at a b c d e f g i
  have := Int.mul_le_mul d f (by omega) (by omega)
  have h1 := SL.own4_bytes hi
  have h2 := SL.own4_bytes (s := L.ev) (by omega)
  have hw : wire L.lost < 256 := by unfold wire; split <;> omega
  have hb : bit L.op < 256 := by unfold bit; split <;> decide
  intro x hx
  simp only [Lab.head, List.mem_append, List.mem_cons, List.not_mem_nil, or_false] at hx
  rcases hx with ((rfl | hx) | hx) | rfl | rfl | rfl | rfl | rfl | rfl | rfl | rfl
  · decide
  · exact h1 _ hx
  · exact h2 _ hx
  all_goals omega
theorem block_length (L : Lab) : L.block.length = 128 := SL.sld_length _ (by rw [head_length]; decide)
theorem block_sealed {L : Lab} (h : L.mayP) (hi : L.id < 4294967296) : SL.Sealed L.block := SL.sld_sealed (by rw [head_length]; decide) (head_bytes h hi)
theorem block_bytes {L : Lab} (h : L.mayP) (hi : L.id < 4294967296) : SL.Bytes L.block := (block_sealed h hi).byt
theorem block_get (L : Lab) (i : Nat) (hi : i < 124) : L.block.getD i 0 = L.head.getD i 0 := SL.sld_get (by rw [head_length]; decide) i hi
theorem own4_get {n : Nat} (h : n < 4294967296) (j : Nat) (hj : j < 4) : (PM.own4 n).getD j 0 = n / 256 ^ j % 256 := by
  have : j = 0 ∨ j = 1 ∨ j = 2 ∨ j = 3 := by omega
  rcases this with rfl | rfl | rfl | rfl <;> simp [PM.own4] <;> omega
theorem block_id {L : Lab} (hi : L.id < 4294967296) : PK.tv L.block 1 4 = L.id := by
  have := PK.tv_bytes (l := L.block) (a := 1) (n := L.id) 4 (fun j hj => by
    rw [block_get _ _ (by omega), ← own4_get hi j hj]
    have : j = 0 ∨ j = 1 ∨ j = 2 ∨ j = 3 := by omega
    rcases this with rfl | rfl | rfl | rfl <;> rfl)
  rw [this]; omega
theorem block_ev {L : Lab} (hi : L.ev < 4294967296) : PK.tv L.block 5 4 = L.ev := by
  have := PK.tv_bytes (l := L.block) (a := 5) (n := L.ev) 4 (fun j hj => by
    rw [block_get _ _ (by omega), ← own4_get hi j hj]
    have : j = 0 ∨ j = 1 ∨ j = 2 ∨ j = 3 := by omega
    rcases this with rfl | rfl | rfl | rfl <;> rfl)
  rw [this]; omega
theorem parse_block {L : Lab} (h : L.mayP) (hi : L.id < 4294967296) : parse L.block = L := by
  obtain ⟨⟨⟨a, b⟩, ⟨c, d⟩, ⟨e, f⟩, _, g, i⟩, j, k, m, n⟩ := h
  dsimp only [Lab.cfg] at a b c d e f g i
  have := Int.mul_le_mul d f (by omega) (by omega)
  unfold parse
  rw [block_id hi, block_ev (by omega)]
  have g9 := block_get L 9 (by decide)
  have g10 := block_get L 10 (by decide)
  have g11 := block_get L 11 (by decide)
  have g12 := block_get L 12 (by decide)
  have g13 := block_get L 13 (by decide)
  have g14 := block_get L 14 (by decide)
  have g15 := block_get L 15 (by decide)
  have g16 := block_get L 16 (by decide)
  rw [g9, g10, g11, g12, g13, g14, g15, g16]
  show (⟨L.id, L.ev, (L.mem.toNat : Int), (L.chunk.toNat : Int), (L.rows.toNat : Int), (L.log.toNat : Int), (L.me.toNat : Int), if wire L.lost = 255 then -1 else (wire L.lost : Int), (L.done.toNat : Int), decide (bit L.op = 1)⟩ : Lab) = L
  have hw : (if wire L.lost = 255 then -1 else (wire L.lost : Int)) = L.lost := by
    unfold wire
    by_cases h0 : 0 ≤ L.lost
    · rw [if_pos h0, if_neg (by omega)]; omega
    · rw [if_neg h0, if_pos rfl]; omega
  have hb : decide (bit L.op = 1) = L.op := by cases L.op <;> rfl
  rw [hw, hb, Int.toNat_of_nonneg (by omega), Int.toNat_of_nonneg (by omega), Int.toNat_of_nonneg (by omega), Int.toNat_of_nonneg (by omega), Int.toNat_of_nonneg (by omega), Int.toNat_of_nonneg (by omega)]
theorem block_inj {L M : Lab} (h : L.mayP) (k : M.mayP) (hi : L.id < 4294967296) (ki : M.id < 4294967296) : L.block = M.block ↔ L = M := by
  refine ⟨fun e => ?_, fun e => by rw [e]⟩
  rw [← parse_block h hi, ← parse_block k ki, e]
theorem good_block {L : Lab} (h : L.mayP) (hi : L.id < 4294967296) : good L.block = true := by
  unfold good
  rw [parse_block h hi, may_iff.2 h]
  simp
theorem rd_block {L : Lab} (h : L.mayP) (hi : L.id < 4294967296) : rd L.block = (L, 0) := by
  unfold rd
  rw [if_neg (by rw [block_length]; decide), PK.wh_full (block_length L), if_pos (good_block h hi), parse_block h hi]
theorem rd_text {l : List Nat} (h : l.length ≠ 0) (k : l.length ≠ 128) : rd l = (Lab.zero, 3) := if_pos ⟨h, k⟩
theorem rd_sum {l : List Nat} (h : l.length = 0 ∨ l.length = 128) (k : good (PK.wh l) = false) : rd l = (Lab.zero, 90) := by
  unfold rd
  rw [if_neg (by omega), if_neg (by rw [k]; decide)]
theorem rd_good {l : List Nat} (h : l.length = 0 ∨ l.length = 128) (k : good (PK.wh l) = true) : rd l = (parse (PK.wh l), 0) := by
  unfold rd
  rw [if_neg (by omega), if_pos k]
theorem good_first {m : List Nat} (h : good m = true) : m.getD 0 0 = 76 := by
  unfold good at h
  simp only [Bool.and_eq_true, decide_eq_true_eq] at h
  rw [← h.2, block_get _ _ (by decide)]
  rfl
theorem rd_first {l : List Nat} (h : l.length = 0 ∨ l.length = 128) (k : l.getD 0 0 ≠ 76) : rd l = (Lab.zero, 90) := by
  refine rd_sum h ?_
  rcases hg : good (PK.wh l) with _ | _
  · rfl
  · have := good_first hg
    rw [PK.wh_get] at this
    exact absurd this k
theorem tv_lt4 {m : List Nat} (hm : SL.Bytes m) (a : Nat) : PK.tv m a 4 < 4294967296 := PK.tv_lt hm a 4
theorem good_sealed {m : List Nat} (hb : SL.Bytes m) (h : good m = true) : SL.Sealed m := by
  unfold good at h
  simp only [Bool.and_eq_true, decide_eq_true_eq] at h
  have := block_sealed (may_iff.1 h.1) (tv_lt4 hb 1)
  rwa [h.2] at this
/-- What is not sealed is none's. -/
theorem rd_unsealed {l : List Nat} (h : l.length = 128) (hb : SL.Bytes l) (k : ¬ SL.Sealed l) : rd l = (Lab.zero, 90) := by
  refine rd_sum (.inr h) ?_
  rcases hg : good (PK.wh l) with _ | _
  · rfl
  · rw [PK.wh_full h] at hg
    exact absurd (good_sealed hb hg) k
theorem rd_id {l : List Nat} (hb : SL.Bytes l) : (rd l).1.id < 4294967296 := by
  unfold rd
  split
  · decide
  · split
    · exact tv_lt4 (PK.wh_bytes hb) 1
    · decide
theorem rd_code (l : List Nat) : (rd l).2 = 0 ∨ ((rd l).2 = 3 ∧ (rd l).1 = Lab.zero) ∨ ((rd l).2 = 90 ∧ (rd l).1 = Lab.zero) := by
  unfold rd
  split
  · exact .inr (.inl ⟨rfl, rfl⟩)
  · split
    · exact .inl rfl
    · exact .inr (.inr ⟨rfl, rfl⟩)
/-- What is read may be, and is written as just these bytes. -/
theorem rd_back {l : List Nat} (h : (rd l).2 = 0) : (rd l).1.mayP ∧ (rd l).1.block = l ∧ l.length = 128 := by
  unfold rd at h ⊢
  by_cases h1 : l.length ≠ 0 ∧ l.length ≠ 128
  · rw [if_pos h1] at h; cases h
  · rw [if_neg h1] at h ⊢
    by_cases h2 : good (PK.wh l) = true
    · rw [if_pos h2]
      have hf := good_first h2
      rw [PK.wh_get] at hf
      have hl : l.length = 128 := by
        rcases Nat.eq_zero_or_pos l.length with h0 | h0
        · have := List.eq_nil_of_length_eq_zero h0; subst this; simp at hf
        · omega
      have g := h2
      unfold good at g
      simp only [Bool.and_eq_true, decide_eq_true_eq] at g
      refine ⟨may_iff.1 g.1, ?_, hl⟩
      show (parse (PK.wh l)).block = l
      rw [g.2, PK.wh_full hl]
    · rw [if_neg h2] at h; cases h
end Go.Proofs.Ytjdcnajppjamgaa.LB
