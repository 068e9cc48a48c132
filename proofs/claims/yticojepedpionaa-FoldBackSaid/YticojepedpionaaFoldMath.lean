/-
  Plain mathematics of layer 3: blocks put together by exclusive or.
-/
import Derived.Test.YticojepedpionaaPackMath
namespace Go.Proofs.Yticojepedpionaa.FO

/-- The bytes that all have there, put together. -/
def xs (i : Nat) (L : List (List Nat)) : Nat := L.foldr (fun l x => l.getD i 0 ^^^ x) 0
def fold (L : List (List Nat)) : List Nat := (List.range 128).map fun i => xs i L
def good (L : List (List Nat)) : Bool := L.all fun l => l.length == 0 || l.length == 128
def code (L : List (List Nat)) : Nat := if 16 < L.length then 4 else if good L then 0 else 3
def bytes (L : List (List Nat)) : Prop := ∀ l ∈ L, ∀ x ∈ l, x < 256

theorem xs_append (i : Nat) (A B : List (List Nat)) : xs i (A ++ B) = xs i A ^^^ xs i B := by
  induction A with
  | nil => simp [xs]
  | cons a A ih =>
    have : xs i (a :: A ++ B) = a.getD i 0 ^^^ xs i (A ++ B) := rfl
    rw [this, ih, ← Nat.xor_assoc]; rfl
theorem xs_one (i : Nat) (l : List Nat) : xs i [l] = l.getD i 0 := by simp [xs]
theorem xs_cons (i : Nat) (l : List Nat) (L : List (List Nat)) : xs i (l :: L) = l.getD i 0 ^^^ xs i L := rfl
theorem getD_lt {l : List Nat} (h : ∀ x ∈ l, x < 256) (i : Nat) : l.getD i 0 < 256 := PK.getD_lt h i
theorem xs_lt (i : Nat) {L : List (List Nat)} (h : bytes L) : xs i L < 256 := by
  induction L with
  | nil => simp [xs]
  | cons a A ih =>
    rw [xs_cons]
    exact Nat.xor_lt_two_pow (n := 8) (getD_lt (h a (List.mem_cons_self ..)) i) (ih fun l hl => h l (List.mem_cons_of_mem _ hl))
theorem xs_take (i k : Nat) (L : List (List Nat)) (h : k < L.length) : xs i (L.take (k + 1)) = xs i (L.take k) ^^^ (L.getD k []).getD i 0 := by
  rw [List.take_add_one, List.getElem?_eq_getElem h]
  simp only [Option.toList]
  rw [xs_append, xs_one]
  simp [List.getD, h]
theorem fold_length (L : List (List Nat)) : (fold L).length = 128 := by simp [fold]
theorem fold_get (L : List (List Nat)) (i : Nat) (h : i < 128) : (fold L).getD i 0 = xs i L := by simp [fold, List.getD, h]
theorem fold_bytes {L : List (List Nat)} (h : bytes L) : ∀ x ∈ fold L, x < 256 := by
  intro x hx
  obtain ⟨i, _, rfl⟩ := List.mem_map.1 hx
  exact xs_lt i h
theorem fold_nil : fold [] = List.replicate 128 0 := by decide
theorem fold_congr {A B : List (List Nat)} (h : ∀ i, i < 128 → xs i A = xs i B) : fold A = fold B := List.map_congr_left fun i hi => h i (List.mem_range.1 hi)
theorem bytes_append {A B : List (List Nat)} (ha : bytes A) (hb : bytes B) : bytes (A ++ B) := fun l hl => by
  rcases List.mem_append.1 hl with h | h
  · exact ha l h
  · exact hb l h
theorem bytes_one {l : List Nat} (h : ∀ x ∈ l, x < 256) : bytes [l] := fun m hm => by
  obtain rfl := List.mem_singleton.1 hm; exact h

/-- The bytes behind i rounds of one block put onto others. -/
def stp (A l : List Nat) (i : Nat) : List Nat := (List.range 128).map fun j => if j < i then A.getD j 0 ^^^ l.getD j 0 else A.getD j 0
theorem stp_length (A l : List Nat) (i : Nat) : (stp A l i).length = 128 := by simp [stp]
theorem stp_get (A l : List Nat) (i j : Nat) (h : j < 128) : (stp A l i).getD j 0 = if j < i then A.getD j 0 ^^^ l.getD j 0 else A.getD j 0 := by simp [stp, List.getD, h]
theorem ext128 {A B : List Nat} (ha : A.length = 128) (hb : B.length = 128) (h : ∀ i, i < 128 → A.getD i 0 = B.getD i 0) : A = B := by
  apply List.ext_getElem (by omega)
  intro i h1 h2
  have := h i (by omega)
  simpa [List.getD, h1, h2] using this
theorem stp_zero (A l : List Nat) (h : A.length = 128) : stp A l 0 = A := ext128 (stp_length _ _ _) h fun i hi => by rw [stp_get _ _ _ _ hi, if_neg (by omega)]
theorem stp_nil (A : List Nat) (h : A.length = 128) : A = stp A [] 128 := ext128 h (stp_length _ _ _) fun i hi => by rw [stp_get _ _ _ _ hi, if_pos hi]; simp
theorem stp_set (A l : List Nat) (i : Nat) (h : i < 128) : (stp A l i).set i (A.getD i 0 ^^^ l.getD i 0) = stp A l (i + 1) := by
  refine ext128 (by rw [List.length_set, stp_length]) (stp_length _ _ _) fun j hj => ?_
  rw [stp_get _ _ _ _ hj]
  have e : ((stp A l i).set i (A.getD i 0 ^^^ l.getD i 0)).getD j 0 = if i = j then A.getD i 0 ^^^ l.getD i 0 else (stp A l i).getD j 0 := by
    simp only [List.getD, List.getElem?_set, stp_length]
    by_cases h1 : i = j
    · rw [if_pos h1, if_pos h1, if_pos (by omega)]; rfl
    · rw [if_neg h1, if_neg h1]
  rw [e, stp_get _ _ _ _ hj]
  by_cases h1 : i = j
  · subst h1; rw [if_pos rfl, if_pos (by omega)]
  · rw [if_neg h1]
    by_cases h2 : j < i
    · rw [if_pos h2, if_pos (by omega)]
    · rw [if_neg h2, if_neg (by omega)]
theorem stp_next (L : List (List Nat)) (k : Nat) (h : k < L.length) : stp (fold (L.take k)) (L.getD k []) 128 = fold (L.take (k + 1)) :=
  ext128 (stp_length _ _ _) (fold_length _) fun i hi => by rw [stp_get _ _ _ _ hi, if_pos hi, fold_get _ _ hi, fold_get _ _ hi, xs_take _ _ _ h]
theorem stp_bytes {A l : List Nat} (ha : ∀ x ∈ A, x < 256) (hl : ∀ x ∈ l, x < 256) (i : Nat) : ∀ x ∈ stp A l i, x < 256 := by
  intro x hx
  obtain ⟨j, _, rfl⟩ := List.mem_map.1 hx
  split
  · exact Nat.xor_lt_two_pow (n := 8) (getD_lt ha j) (getD_lt hl j)
  · exact getD_lt ha j

theorem good_iff (L : List (List Nat)) : good L = true ↔ ∀ l ∈ L, l.length = 0 ∨ l.length = 128 := by simp [good, List.all_eq_true]
theorem good_at {L : List (List Nat)} (h : good L = true) (k : Nat) : (L.getD k []).length = 0 ∨ (L.getD k []).length = 128 := by
  rcases Nat.lt_or_ge k L.length with hk | hk
  · simp only [List.getD, List.getElem?_eq_getElem hk, Option.getD_some]
    exact (good_iff L).1 h _ (List.getElem_mem _)
  · left; simp [List.getD, List.getElem?_eq_none hk]
theorem bytes_at {L : List (List Nat)} (h : bytes L) (k : Nat) : ∀ x ∈ L.getD k [], x < 256 := by
  rcases Nat.lt_or_ge k L.length with hk | hk
  · simp only [List.getD, List.getElem?_eq_getElem hk, Option.getD_some]
    exact h _ (List.getElem_mem _)
  · simp [List.getD, List.getElem?_eq_none hk]
/-- A list that is not good has a first block that is none. -/
theorem bad_first {L : List (List Nat)} (h : good L = false) : ∃ k, k < L.length ∧ (L.getD k []).length ≠ 0 ∧ (L.getD k []).length ≠ 128 ∧ ∀ j, j < k → (L.getD j []).length = 0 ∨ (L.getD j []).length = 128 := by
  induction L with
  | nil => simp [good] at h
  | cons a A ih =>
    by_cases ha : a.length = 0 ∨ a.length = 128
    · have : good A = false := by
        have e : good (a :: A) = ((a.length == 0 || a.length == 128) && good A) := rfl
        rw [e] at h
        have : (a.length == 0 || a.length == 128) = true := by simpa using ha
        rw [this] at h; simpa using h
      obtain ⟨k, hk, h1, h2, h3⟩ := ih this
      refine ⟨k + 1, by simpa using hk, by simpa using h1, by simpa using h2, fun j hj => ?_⟩
      cases j with
      | zero => simpa using ha
      | succ j => simpa using h3 j (by omega)
    · exact ⟨0, by simp, by simp; intro e; exact ha (.inl (by simp [e])), by simp; intro e; exact ha (.inr e), fun j hj => by omega⟩
theorem code_many {L : List (List Nat)} (h : 16 < L.length) : code L = 4 := if_pos h
theorem code_text {L : List (List Nat)} (h : L.length ≤ 16) (hg : good L = false) : code L = 3 := by unfold code; rw [if_neg (by omega), hg]; rfl
theorem code_ok {L : List (List Nat)} (h : L.length ≤ 16) (hg : good L = true) : code L = 0 := by unfold code; rw [if_neg (by omega), hg]; rfl
theorem code_zero {L : List (List Nat)} (h : code L = 0) : L.length ≤ 16 ∧ good L = true := by
  unfold code at h
  split at h
  · cases h
  · split at h
    · rename_i h1 h2; exact ⟨by omega, h2⟩
    · cases h
theorem code_cases (L : List (List Nat)) : (code L = 4 ∧ 16 < L.length) ∨ (code L = 3 ∧ L.length ≤ 16 ∧ good L = false) ∨ (code L = 0 ∧ L.length ≤ 16 ∧ good L = true) := by
  by_cases h : 16 < L.length
  · exact .inl ⟨code_many h, h⟩
  · cases hg : good L with
    | true => exact .inr (.inr ⟨code_ok (by omega) hg, by omega, rfl⟩)
    | false => exact .inr (.inl ⟨code_text (by omega) hg, by omega, rfl⟩)
theorem good_append (A B : List (List Nat)) : good (A ++ B) = (good A && good B) := by simp [good]
theorem great_or (L : List (List Nat)) : (300 < L.length ∨ ∃ k, k < L.length ∧ 1000 < (L.getD k []).length) ∨ (L.length ≤ 300 ∧ ∀ k, k < L.length → (L.getD k []).length ≤ 1000) := by
  by_cases h : L.length ≤ 300 ∧ ∀ k, k < L.length → (L.getD k []).length ≤ 1000
  · exact .inr h
  · left
    by_cases h1 : 300 < L.length
    · exact .inl h1
    · right
      apply Classical.byContradiction
      intro h2
      exact h ⟨by omega, fun k hk => by
        rcases Nat.lt_or_ge 1000 (L.getD k []).length with h3 | h3
        · exact absurd ⟨k, hk, h3⟩ h2
        · exact h3⟩

/-! What follows: no order, parts, turned bytes, twice. -/
theorem xs_split (i k : Nat) (L : List (List Nat)) (h : k < L.length) : xs i L = xs i (L.take k) ^^^ ((L.getD k []).getD i 0 ^^^ xs i (L.drop (k + 1))) := by
  conv => lhs; rw [← List.take_append_drop (k + 1) L]
  rw [xs_append, xs_take _ _ _ h, Nat.xor_assoc]
theorem xs_set (i k : Nat) (L : List (List Nat)) (m : List Nat) (h : k < L.length) : xs i (L.set k m) = xs i L ^^^ ((L.getD k []).getD i 0 ^^^ m.getD i 0) := by
  rw [xs_split i k (L.set k m) (by rw [List.length_set]; exact h), xs_split i k L h]
  have e1 : (L.set k m).take k = L.take k := by rw [List.take_set]; exact List.set_eq_of_length_le (by rw [List.length_take]; exact Nat.min_le_left _ _)
  have e2 : (L.set k m).drop (k + 1) = L.drop (k + 1) := by rw [List.drop_set, if_pos (by omega)]
  have e3 : (L.set k m).getD k [] = m := by simp [List.getD, h]
  rw [e1, e2, e3]
  generalize xs i (L.take k) = a
  generalize (L.getD k []).getD i 0 = b
  generalize m.getD i 0 = c
  generalize xs i (L.drop (k + 1)) = d
  apply Nat.eq_of_testBit_eq
  intro j
  simp only [Nat.testBit_xor]
  cases a.testBit j <;> cases b.testBit j <;> cases c.testBit j <;> cases d.testBit j <;> rfl
theorem xor_four (a b c : Nat) : a ^^^ (b ^^^ c) ^^^ (c ^^^ b) = a := by
  apply Nat.eq_of_testBit_eq
  intro j
  simp only [Nat.testBit_xor]
  cases a.testBit j <;> cases b.testBit j <;> cases c.testBit j <;> rfl
theorem xor_back (a b c : Nat) : (a ^^^ c) ^^^ (a ^^^ (b ^^^ c)) = b := by
  apply Nat.eq_of_testBit_eq
  intro j
  simp only [Nat.testBit_xor]
  cases a.testBit j <;> cases b.testBit j <;> cases c.testBit j <;> rfl
/-- Two that change places. -/
def swp (L : List (List Nat)) (a b : Nat) : List (List Nat) := (L.set a (L.getD b [])).set b (L.getD a [])
theorem swp_length (L : List (List Nat)) (a b : Nat) : (swp L a b).length = L.length := by simp [swp]
theorem xs_swp (i : Nat) (L : List (List Nat)) (a b : Nat) (ha : a < L.length) (hb : b < L.length) : xs i (swp L a b) = xs i L := by
  unfold swp
  rw [xs_set i b _ _ (by rw [List.length_set]; exact hb), xs_set i a _ _ ha]
  by_cases h : a = b
  · subst h
    have : (L.set a (L.getD a [])).getD a [] = L.getD a [] := by simp [List.getD, ha]
    rw [this, Nat.xor_self, Nat.xor_zero, Nat.xor_zero]
  · have : (L.set a (L.getD b [])).getD b [] = L.getD b [] := by simp [List.getD, h]
    rw [this]
    exact xor_four _ _ _
theorem good_set {L : List (List Nat)} (m : List Nat) (k : Nat) (hk : k < L.length) (h : ((L.getD k []).length = 0 ∨ (L.getD k []).length = 128) ↔ (m.length = 0 ∨ m.length = 128)) : good (L.set k m) = good L := by
  rw [Bool.eq_iff_iff, good_iff, good_iff]
  have hmem : L.getD k [] ∈ L := by simp only [List.getD, List.getElem?_eq_getElem hk, Option.getD_some]; exact List.getElem_mem _
  constructor
  · intro H l hl
    obtain ⟨j, hj, rfl⟩ := List.mem_iff_getElem.1 hl
    by_cases hjk : k = j
    · subst hjk
      have : L.getD k [] = L[k] := by simp [List.getD, hk]
      rw [← this]
      exact h.2 (H m (List.mem_iff_getElem.2 ⟨k, by simpa using hk, by simp⟩))
    · exact H _ (List.mem_iff_getElem.2 ⟨j, by simpa using hj, by rw [List.getElem_set_ne hjk]⟩)
  · intro H l hl
    rcases List.mem_or_eq_of_mem_set hl with h1 | rfl
    · exact H l h1
    · exact h.1 (H _ hmem)
theorem good_swp (L : List (List Nat)) (a b : Nat) (ha : a < L.length) (hb : b < L.length) : good (swp L a b) = good L := by
  have perm : ∀ l, l ∈ swp L a b ↔ l ∈ L := by
    intro l
    have hA : L.getD a [] ∈ L := by simp only [List.getD, List.getElem?_eq_getElem ha, Option.getD_some]; exact List.getElem_mem _
    have hB : L.getD b [] ∈ L := by simp only [List.getD, List.getElem?_eq_getElem hb, Option.getD_some]; exact List.getElem_mem _
    constructor
    · intro h
      rcases List.mem_or_eq_of_mem_set h with h | rfl
      · rcases List.mem_or_eq_of_mem_set h with h | rfl
        · exact h
        · exact hB
      · exact hA
    · intro h
      obtain ⟨j, hj, rfl⟩ := List.mem_iff_getElem.1 h
      by_cases h1 : b = j
      · subst h1
        by_cases h2 : a = b
        · subst h2
          exact List.mem_iff_getElem.2 ⟨a, by simpa [swp] using ha, by simp [swp, List.getD, ha]⟩
        · refine List.mem_iff_getElem.2 ⟨a, by simpa [swp] using ha, ?_⟩
          simp only [swp]
          rw [List.getElem_set_ne (fun e => h2 e.symm), List.getElem_set_self]
          simp [List.getD, hb]
      · by_cases h2 : a = j
        · subst h2
          refine List.mem_iff_getElem.2 ⟨b, by simpa [swp] using hb, ?_⟩
          simp only [swp]
          rw [List.getElem_set_self]
          simp [List.getD, ha]
        · refine List.mem_iff_getElem.2 ⟨j, by simpa [swp] using hj, ?_⟩
          simp only [swp]
          rw [List.getElem_set_ne h1, List.getElem_set_ne h2]
  rw [Bool.eq_iff_iff, good_iff, good_iff]
  exact ⟨fun H l hl => H l ((perm l).2 hl), fun H l hl => H l ((perm l).1 hl)⟩
theorem code_swp (L : List (List Nat)) (a b : Nat) (ha : a < L.length) (hb : b < L.length) : code (swp L a b) = code L := by
  unfold code; rw [swp_length, good_swp L a b ha hb]
theorem fold_swp (L : List (List Nat)) (a b : Nat) (ha : a < L.length) (hb : b < L.length) : fold (swp L a b) = fold L := fold_congr fun i _ => xs_swp i L a b ha hb
theorem bytes_swp {L : List (List Nat)} (h : bytes L) (a b : Nat) : bytes (swp L a b) := by
  intro l hl
  rcases List.mem_or_eq_of_mem_set hl with h1 | rfl
  · rcases List.mem_or_eq_of_mem_set h1 with h1 | rfl
    · exact h l h1
    · exact bytes_at h b
  · exact bytes_at h a

theorem fold_fold (A B : List (List Nat)) : fold [fold A, fold B] = fold (A ++ B) := fold_congr fun i hi => by
  rw [xs_append, xs_cons, xs_one, fold_get _ _ hi, fold_get _ _ hi]
theorem fold_twice (L : List (List Nat)) (b : List Nat) : fold (L ++ [b, b]) = fold L := fold_congr fun i _ => by
  rw [xs_append, xs_cons, xs_one, Nat.xor_self, Nat.xor_zero]
theorem fold_none (L : List (List Nat)) : fold (L ++ [[]]) = fold L := fold_congr fun i _ => by
  rw [xs_append, xs_one]; simp

/-- The blocks but one, of the first k. -/
def but (L : List (List Nat)) (p k : Nat) : List (List Nat) := L.take (min p k) ++ (L.take k).drop (p + 1)
theorem but_all (L : List (List Nat)) (p : Nat) (h : p < L.length) : but L p L.length = L.take p ++ L.drop (p + 1) := by
  unfold but
  rw [Nat.min_eq_left (by omega), List.take_length]
theorem fold_but (L : List (List Nat)) (p : Nat) (h : p < L.length) (i : Nat) (hi : i < 128) : (fold (L.take p ++ L.drop (p + 1) ++ [fold L])).getD i 0 = (L.getD p []).getD i 0 := by
  rw [fold_get _ _ hi, xs_append, xs_one, fold_get _ _ hi, xs_append, xs_split i p L h]
  exact xor_back _ _ _
theorem but_length (L : List (List Nat)) (p : Nat) (h : p < L.length) : (L.take p ++ L.drop (p + 1)).length + 1 = L.length := by simp; omega
theorem good_but (L : List (List Nat)) (p : Nat) (h : good L = true) : good (L.take p ++ L.drop (p + 1)) = true := by
  rw [good_iff] at h ⊢
  intro l hl
  rcases List.mem_append.1 hl with h1 | h1
  · exact h l (List.mem_of_mem_take h1)
  · exact h l (List.mem_of_mem_drop h1)
theorem code_but (L : List (List Nat)) (p : Nat) (h : p < L.length) (hc : code L = 0) : code (L.take p ++ L.drop (p + 1) ++ [fold L]) = 0 := by
  obtain ⟨h1, h2⟩ := code_zero hc
  have := but_length L p h
  refine code_ok (by rw [List.length_append]; simp; simp at this; omega) ?_
  rw [good_append, good_but L p h2]
  simp [good, fold_length]
end Go.Proofs.Yticojepedpionaa.FO
