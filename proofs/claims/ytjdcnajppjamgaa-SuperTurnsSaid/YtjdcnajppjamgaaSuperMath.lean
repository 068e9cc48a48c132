/-
  Layer 10's plain mathematics: supers that may be, and their blocks. No Go.
-/
import Derived.Test.YtjdcnajppjamgaaSealMath
namespace Go.Proofs.Ytjdcnajppjamgaa.SB
set_option linter.unusedVariables false
set_option maxRecDepth 100000

structure Sup where
  id : Nat
  age : Nat
  seq : Nat
  tail : Int
deriving DecidableEq

def Sup.zero : Sup := ⟨0, 0, 0, 0⟩
def Sup.mayP (L : Sup) : Prop := 1 ≤ L.age ∧ L.age ≤ 2147483648 ∧ 1 ≤ L.seq ∧ L.seq ≤ 2147483648 ∧ 0 ≤ L.tail ∧ L.tail < 255
instance (L : Sup) : Decidable L.mayP := by unfold Sup.mayP; exact inferInstance
def Sup.may (L : Sup) : Bool := decide L.mayP
theorem may_iff {L : Sup} : L.may = true ↔ L.mayP := by simp [Sup.may]
theorem may_not {L : Sup} : L.may = false ↔ ¬ L.mayP := by simp [Sup.may]
def Sup.code (L : Sup) : Nat := if L.may = true then 0 else 8
theorem code_yes {L : Sup} (h : L.may = true) : L.code = 0 := by simp [Sup.code, h]
theorem code_no {L : Sup} (h : L.may = false) : L.code = 8 := by simp [Sup.code, h]
def Sup.head (L : Sup) : List Nat := [83] ++ PM.own4 L.id ++ PM.own4 L.age ++ PM.own4 L.seq ++ [L.tail.toNat]
def Sup.block (L : Sup) : List Nat := SL.sld L.head
/-- What it writes: none, if it may not be. -/
def Sup.text (L : Sup) : List Nat := if L.may = true then L.block else []
theorem text_yes {L : Sup} (h : L.may = true) : L.text = L.block := by simp [Sup.text, h]
theorem text_no {L : Sup} (h : L.may = false) : L.text = [] := by simp [Sup.text, h]
def parse (m : List Nat) : Sup := ⟨PK.tv m 1 4, PK.tv m 5 4, PK.tv m 9 4, m.getD 13 0⟩
def good (m : List Nat) : Bool := (parse m).may && decide ((parse m).block = m)
def rd (l : List Nat) : Sup × Nat := if l.length ≠ 0 ∧ l.length ≠ 128 then (Sup.zero, 3) else if good (PK.wh l) = true then (parse (PK.wh l), 0) else (Sup.zero, 90)

theorem head_length (L : Sup) : L.head.length = 14 := rfl
theorem head_bytes {L : Sup} (h : L.mayP) (hi : L.id < 4294967296) : SL.Bytes L.head := by
  obtain ⟨a, b, c, d, e, f⟩ := h
  have h1 := SL.own4_bytes hi
  have h2 := SL.own4_bytes (s := L.age) (by omega)
  have h3 := SL.own4_bytes (s := L.seq) (by omega)
  intro x hx
  simp only [Sup.head, List.mem_append, List.mem_cons, List.not_mem_nil, or_false] at hx
  rcases hx with (((rfl | hx) | hx) | hx) | rfl
  · decide
  · exact h1 _ hx
  · exact h2 _ hx
  · exact h3 _ hx
  · omega
theorem block_length (L : Sup) : L.block.length = 128 := SL.sld_length _ (by rw [head_length]; decide)
theorem block_sealed {L : Sup} (h : L.mayP) (hi : L.id < 4294967296) : SL.Sealed L.block := SL.sld_sealed (by rw [head_length]; decide) (head_bytes h hi)
theorem block_bytes {L : Sup} (h : L.mayP) (hi : L.id < 4294967296) : SL.Bytes L.block := (block_sealed h hi).byt
theorem block_get (L : Sup) (i : Nat) (hi : i < 124) : L.block.getD i 0 = L.head.getD i 0 := SL.sld_get (by rw [head_length]; decide) i hi
theorem own4_get {n : Nat} (h : n < 4294967296) (j : Nat) (hj : j < 4) : (PM.own4 n).getD j 0 = n / 256 ^ j % 256 := by
  have : j = 0 ∨ j = 1 ∨ j = 2 ∨ j = 3 := by omega
  rcases this with rfl | rfl | rfl | rfl <;> simp [PM.own4] <;> omega
theorem block_id {L : Sup} (hi : L.id < 4294967296) : PK.tv L.block 1 4 = L.id := by
  have := PK.tv_bytes (l := L.block) (a := 1) (n := L.id) 4 (fun j hj => by
    rw [block_get _ _ (by omega), ← own4_get hi j hj]
    have : j = 0 ∨ j = 1 ∨ j = 2 ∨ j = 3 := by omega
    rcases this with rfl | rfl | rfl | rfl <;> rfl)
  rw [this]; omega
theorem block_age {L : Sup} (hi : L.age < 4294967296) : PK.tv L.block 5 4 = L.age := by
  have := PK.tv_bytes (l := L.block) (a := 5) (n := L.age) 4 (fun j hj => by
    rw [block_get _ _ (by omega), ← own4_get hi j hj]
    have : j = 0 ∨ j = 1 ∨ j = 2 ∨ j = 3 := by omega
    rcases this with rfl | rfl | rfl | rfl <;> rfl)
  rw [this]; omega
theorem block_seq {L : Sup} (hi : L.seq < 4294967296) : PK.tv L.block 9 4 = L.seq := by
  have := PK.tv_bytes (l := L.block) (a := 9) (n := L.seq) 4 (fun j hj => by
    rw [block_get _ _ (by omega), ← own4_get hi j hj]
    have : j = 0 ∨ j = 1 ∨ j = 2 ∨ j = 3 := by omega
    rcases this with rfl | rfl | rfl | rfl <;> rfl)
  rw [this]; omega
theorem parse_block {L : Sup} (h : L.mayP) (hi : L.id < 4294967296) : parse L.block = L := by
  obtain ⟨a, b, c, d, e, f⟩ := h
  unfold parse
  rw [block_id hi, block_age (by omega), block_seq (by omega), block_get L 13 (by decide)]
  show (⟨L.id, L.age, L.seq, (L.tail.toNat : Int)⟩ : Sup) = L
  rw [Int.toNat_of_nonneg (by omega)]
theorem block_inj {L M : Sup} (h : L.mayP) (k : M.mayP) (hi : L.id < 4294967296) (ki : M.id < 4294967296) : L.block = M.block ↔ L = M := by
  refine ⟨fun e => ?_, fun e => by rw [e]⟩
  rw [← parse_block h hi, ← parse_block k ki, e]
theorem good_block {L : Sup} (h : L.mayP) (hi : L.id < 4294967296) : good L.block = true := by
  unfold good
  rw [parse_block h hi, may_iff.2 h]
  simp
theorem rd_block {L : Sup} (h : L.mayP) (hi : L.id < 4294967296) : rd L.block = (L, 0) := by
  unfold rd
  rw [if_neg (by rw [block_length]; decide), PK.wh_full (block_length L), if_pos (good_block h hi), parse_block h hi]
theorem rd_text {l : List Nat} (h : l.length ≠ 0) (k : l.length ≠ 128) : rd l = (Sup.zero, 3) := if_pos ⟨h, k⟩
theorem rd_sum {l : List Nat} (h : l.length = 0 ∨ l.length = 128) (k : good (PK.wh l) = false) : rd l = (Sup.zero, 90) := by
  unfold rd
  rw [if_neg (by omega), if_neg (by rw [k]; decide)]
theorem rd_good {l : List Nat} (h : l.length = 0 ∨ l.length = 128) (k : good (PK.wh l) = true) : rd l = (parse (PK.wh l), 0) := by
  unfold rd
  rw [if_neg (by omega), if_pos k]
theorem good_first {m : List Nat} (h : good m = true) : m.getD 0 0 = 83 := by
  unfold good at h
  simp only [Bool.and_eq_true, decide_eq_true_eq] at h
  rw [← h.2, block_get _ _ (by decide)]
  rfl
theorem rd_first {l : List Nat} (h : l.length = 0 ∨ l.length = 128) (k : l.getD 0 0 ≠ 83) : rd l = (Sup.zero, 90) := by
  refine rd_sum h ?_
  rcases hg : good (PK.wh l) with _ | _
  · rfl
  · have := good_first hg
    rw [PK.wh_get] at this
    exact absurd this k
theorem tv_lt4 {m : List Nat} (hm : SL.Bytes m) (a : Nat) : PK.tv m a 4 < 4294967296 := PK.tv_lt hm a 4
theorem good_sealed {m : List Nat} (hb : SL.Bytes m) (h : good m = true) : SL.Sealed m := by
  unfold good at h
  simp only [Bool.and_eq_true, decide_eq_true_eq] at h
  have := block_sealed (may_iff.1 h.1) (tv_lt4 hb 1)
  rwa [h.2] at this
/-- What is not sealed is none's. -/
theorem rd_unsealed {l : List Nat} (h : l.length = 128) (hb : SL.Bytes l) (k : ¬ SL.Sealed l) : rd l = (Sup.zero, 90) := by
  refine rd_sum (.inr h) ?_
  rcases hg : good (PK.wh l) with _ | _
  · rfl
  · rw [PK.wh_full h] at hg
    exact absurd (good_sealed hb hg) k
theorem rd_id {l : List Nat} (hb : SL.Bytes l) : (rd l).1.id < 4294967296 := by
  unfold rd
  split
  · decide
  · split
    · exact tv_lt4 (PK.wh_bytes hb) 1
    · decide
theorem rd_code (l : List Nat) : (rd l).2 = 0 ∨ ((rd l).2 = 3 ∧ (rd l).1 = Sup.zero) ∨ ((rd l).2 = 90 ∧ (rd l).1 = Sup.zero) := by
  unfold rd
  split
  · exact .inr (.inl ⟨rfl, rfl⟩)
  · split
    · exact .inl rfl
    · exact .inr (.inr ⟨rfl, rfl⟩)
/-- What is read may be, and is written as just these bytes. -/
theorem rd_back {l : List Nat} (h : (rd l).2 = 0) : (rd l).1.mayP ∧ (rd l).1.block = l ∧ l.length = 128 := by
  unfold rd at h ⊢
  by_cases h1 : l.length ≠ 0 ∧ l.length ≠ 128
  · rw [if_pos h1] at h; cases h
  · rw [if_neg h1] at h ⊢
    by_cases h2 : good (PK.wh l) = true
    · rw [if_pos h2]
      have hf := good_first h2
      rw [PK.wh_get] at hf
      have hl : l.length = 128 := by
        rcases Nat.eq_zero_or_pos l.length with h0 | h0
        · have := List.eq_nil_of_length_eq_zero h0; subst this; simp at hf
        · omega
      have g := h2
      unfold good at g
      simp only [Bool.and_eq_true, decide_eq_true_eq] at g
      refine ⟨may_iff.1 g.1, ?_, hl⟩
      show (parse (PK.wh l)).block = l
      rw [g.2, PK.wh_full hl]
    · rw [if_neg h2] at h; cases h
end Go.Proofs.Ytjdcnajppjamgaa.SB
