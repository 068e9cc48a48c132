/-
  Plain mathematics of layer 2: blocks as lists of numbers, numbers laid into them byte by byte, and read out of them.
-/
namespace Go.Proofs.Ytjdcnajppjamgaa.PK

/-- A block's bytes: none is one of noughts. -/
def wh (l : List Nat) : List Nat := l ++ List.replicate (128 - l.length) 0
theorem wh_length {l : List Nat} (h : l.length ≤ 128) : (wh l).length = 128 := by simp [wh]; omega
theorem wh_get (l : List Nat) (i : Nat) : (wh l).getD i 0 = l.getD i 0 := by
  unfold wh
  simp only [List.getD, List.getElem?_append]
  split
  · rfl
  · rw [List.getElem?_eq_none (by omega : l.length ≤ i), List.getElem?_replicate]
    split <;> rfl
theorem wh_full {l : List Nat} (h : l.length = 128) : wh l = l := by simp [wh, h]
theorem wh_bytes {l : List Nat} (h : ∀ x ∈ l, x < 256) : ∀ x ∈ wh l, x < 256 := by
  intro x hx
  unfold wh at hx
  rcases List.mem_append.1 hx with h1 | h1
  · exact h x h1
  · have := (List.mem_replicate.1 h1).2; omega
theorem getD_lt {l : List Nat} (h : ∀ x ∈ l, x < 256) (i : Nat) : l.getD i 0 < 256 := by
  rcases Nat.lt_or_ge i l.length with hi | hi
  · simp only [List.getD, List.getElem?_eq_getElem hi, Option.getD_some]; exact h _ (List.getElem_mem _)
  · simp [List.getD, List.getElem?_eq_none hi]

/-- The bytes of a number laid from a place on: the first k of them. -/
def pk (l : List Nat) (a n : Nat) : Nat → List Nat
  | 0 => l
  | k + 1 => (pk l a n k).set (a + k) (n / 256 ^ k % 256)
theorem pk_length (l : List Nat) (a n k : Nat) : (pk l a n k).length = l.length := by
  induction k with
  | zero => rfl
  | succ k ih => simp [pk, ih]
theorem pk_get (l : List Nat) (a n k i : Nat) : (pk l a n k)[i]? = if a ≤ i ∧ i < a + k ∧ i < l.length then some (n / 256 ^ (i - a) % 256) else l[i]? := by
  induction k with
  | zero => rw [if_neg (by omega)]; rfl
  | succ k ih =>
    unfold pk
    rw [List.getElem?_set]
    by_cases h : a + k = i
    · subst h
      by_cases h2 : a + k < l.length
      · rw [if_pos rfl, if_pos (by rw [pk_length]; exact h2), if_pos (by omega), Nat.add_sub_cancel_left]
      · rw [if_pos rfl, if_neg (by rw [pk_length]; exact h2), if_neg (by omega), List.getElem?_eq_none (by omega)]
    · rw [if_neg h, ih]
      by_cases h2 : a ≤ i ∧ i < a + k ∧ i < l.length
      · rw [if_pos h2, if_pos (by omega)]
      · rw [if_neg h2, if_neg (by omega)]
theorem pk_out (l : List Nat) (a n k i : Nat) (h : i < a ∨ a + k ≤ i) : (pk l a n k).getD i 0 = l.getD i 0 := by
  simp only [List.getD]
  rw [pk_get, if_neg (by omega)]
theorem pk_in (l : List Nat) (a n k j : Nat) (h : j < k) (hl : a + k ≤ l.length) : (pk l a n k).getD (a + j) 0 = n / 256 ^ j % 256 := by
  simp only [List.getD]
  rw [pk_get, if_pos (by omega), Nat.add_sub_cancel_left]
  rfl
theorem pk_bytes {l : List Nat} (h : ∀ x ∈ l, x < 256) (a n k : Nat) : ∀ x ∈ pk l a n k, x < 256 := by
  intro x hx
  obtain ⟨i, hi⟩ := List.mem_iff_getElem?.1 hx
  rw [pk_get] at hi
  split at hi
  · injection hi with hi; omega
  · exact h x (List.mem_iff_getElem?.2 ⟨i, hi⟩)

/-- The number whose first k bytes stand from a place on. -/
def tv (l : List Nat) (a : Nat) : Nat → Nat
  | 0 => 0
  | k + 1 => tv l a k + l.getD (a + k) 0 * 256 ^ k
theorem tv_lt {l : List Nat} (h : ∀ x ∈ l, x < 256) (a k : Nat) : tv l a k < 256 ^ k := by
  induction k with
  | zero => simp [tv]
  | succ k ih =>
    have := getD_lt h (a + k)
    unfold tv
    rw [Nat.pow_succ]
    have h2 : l.getD (a + k) 0 * 256 ^ k ≤ 255 * 256 ^ k := Nat.mul_le_mul_right _ (by omega)
    omega
theorem tv_congr {l m : List Nat} {a k : Nat} (h : ∀ j, j < k → l.getD (a + j) 0 = m.getD (a + j) 0) : tv l a k = tv m a k := by
  induction k with
  | zero => rfl
  | succ k ih => unfold tv; rw [ih (fun j hj => h j (by omega)), h k (by omega)]
theorem mod_pow_succ (n k : Nat) : n % 256 ^ (k + 1) = n % 256 ^ k + n / 256 ^ k % 256 * 256 ^ k := by
  rw [Nat.pow_succ, Nat.mod_mul, Nat.mul_comm (256 ^ k)]
theorem tv_bytes {l : List Nat} {a n : Nat} (k : Nat) (h : ∀ j, j < k → l.getD (a + j) 0 = n / 256 ^ j % 256) : tv l a k = n % 256 ^ k := by
  induction k with
  | zero => simp [tv, Nat.mod_one]
  | succ k ih => unfold tv; rw [ih (fun j hj => h j (by omega)), h k (by omega), mod_pow_succ]
theorem tv_pk (l : List Nat) (a n k : Nat) (h : a + k ≤ l.length) : tv (pk l a n k) a k = n % 256 ^ k :=
  tv_bytes k fun j hj => pk_in l a n k j hj h
theorem tv_byte {l : List Nat} (h : ∀ x ∈ l, x < 256) (a k j : Nat) (hj : j < k) : tv l a k / 256 ^ j % 256 = l.getD (a + j) 0 := by
  induction k with
  | zero => omega
  | succ k ih =>
    unfold tv
    by_cases e : j = k
    · subst e
      have h1 := tv_lt h a j
      have h2 := getD_lt h (a + j)
      rw [Nat.add_mul_div_right _ _ (by exact Nat.pos_of_ne_zero (by simp)), Nat.div_eq_of_lt h1, Nat.zero_add, Nat.mod_eq_of_lt h2]
    · have hjk : j < k := by omega
      rw [show 256 ^ k = 256 * 256 ^ (k - j - 1) * 256 ^ j from by rw [Nat.mul_comm 256, ← Nat.pow_succ, ← Nat.pow_add]; congr 1; omega, ← Nat.mul_assoc, Nat.add_mul_div_right _ _ (by exact Nat.pos_of_ne_zero (by simp))]
      rw [show l.getD (a + k) 0 * (256 * 256 ^ (k - j - 1)) = 256 * (l.getD (a + k) 0 * 256 ^ (k - j - 1)) from by rw [Nat.mul_left_comm], Nat.add_mul_mod_self_left]
      exact ih hjk
theorem ext_getD {l m : List Nat} (h : l.length = m.length) (g : ∀ i, i < l.length → l.getD i 0 = m.getD i 0) : l = m := by
  apply List.ext_getElem h
  intro i h1 h2
  have := g i h1
  simpa [List.getD, h1, h2] using this
/-- What is taken, put where it was, changes nothing. -/
theorem pk_tv {l m : List Nat} (hm : ∀ x ∈ m, x < 256) (a k : Nat) (h : a + k ≤ l.length) (hlm : l.length = m.length) (hout : ∀ i, i < a ∨ a + k ≤ i → l.getD i 0 = m.getD i 0) : pk l a (tv m a k) k = m := by
  apply ext_getD (by rw [pk_length, hlm])
  intro i hi
  by_cases hin : a ≤ i ∧ i < a + k
  · obtain ⟨j, rfl⟩ : ∃ j, i = a + j := ⟨i - a, by omega⟩
    rw [pk_in l a _ k j (by omega) h, tv_byte hm a k j (by omega)]
  · rw [pk_out l a _ k i (by omega), hout i (by omega)]
/-- Places that share no byte: in either order. -/
theorem pk_comm (l : List Nat) (a n k b m j : Nat) (h : a + k ≤ b ∨ b + j ≤ a) : pk (pk l a n k) b m j = pk (pk l b m j) a n k := by
  apply List.ext_getElem?
  intro i
  rw [pk_get, pk_get, pk_get, pk_get, pk_length, pk_length]
  by_cases h1 : a ≤ i ∧ i < a + k ∧ i < l.length
  · rw [if_neg (by omega), if_pos h1, if_pos h1]
  · by_cases h2 : b ≤ i ∧ i < b + j ∧ i < l.length
    · rw [if_pos h2, if_neg h1, if_pos h2]
    · rw [if_neg h2, if_neg h1, if_neg h1, if_neg h2]
/-- Two at one place, of one size: the later one stands. -/
theorem pk_over (l : List Nat) (a n m k : Nat) : pk (pk l a n k) a m k = pk l a m k := by
  apply List.ext_getElem?
  intro i
  rw [pk_get, pk_get, pk_get, pk_length]
  by_cases h1 : a ≤ i ∧ i < a + k ∧ i < l.length
  · rw [if_pos h1, if_pos h1]
  · rw [if_neg h1, if_neg h1, if_neg h1]
/-- Put elsewhere, what stands here stays. -/
theorem tv_pk_out (l : List Nat) (a k b m j : Nat) (h : a + k ≤ b ∨ b + j ≤ a) : tv (pk l b m j) a k = tv l a k :=
  tv_congr fun i hi => pk_out l b m j (a + i) (by omega)
/-- The bytes laid or read from the lowest on, by or. -/
theorem or_step {n x k : Nat} (h : n < 256 ^ k) : n ||| x <<< (8 * k) = n + x * 256 ^ k := by
  have h' : n < 2 ^ (8 * k) := by rw [Nat.pow_mul]; exact h
  have := Nat.shiftLeft_add_eq_or_of_lt h' x
  rw [Nat.or_comm, ← this, Nat.shiftLeft_eq, Nat.pow_mul, Nat.add_comm]
theorem shr_step (n k : Nat) : n >>> (8 * k) = n / 256 ^ k := by
  rw [Nat.shiftRight_eq_div_pow, Nat.pow_mul]
theorem pow_256 (k : Nat) : 256 ^ k = 2 ^ (8 * k) := by rw [Nat.pow_mul]
theorem pow_pos' (k : Nat) : 0 < 256 ^ k := Nat.pos_of_ne_zero (by simp)
/-- A block, its first k bytes copied. -/
def wk (l : List Nat) (k : Nat) : List Nat := l.take k ++ List.replicate (128 - k) 0
theorem wk_length (l : List Nat) (k : Nat) (h : k ≤ l.length) (h2 : k ≤ 128) : (wk l k).length = 128 := by simp [wk]; omega
theorem wk_zero (l : List Nat) : wk l 0 = List.replicate 128 0 := by simp [wk]
theorem wk_all (l : List Nat) : wk l l.length = wh l := by simp [wk, wh]
theorem wk_step (l : List Nat) (k : Nat) (h : k < l.length) (h2 : l.length ≤ 128) : (wk l k).set k (l.getD k 0) = wk l (k + 1) := by
  unfold wk
  have hk : (l.take k).length = k := by rw [List.length_take]; omega
  rw [show 128 - k = (128 - (k + 1)) + 1 from by omega, List.replicate_succ, List.set_append_right _ _ (by omega), hk, Nat.sub_self, List.set_cons_zero, List.take_succ_eq_append_getElem h, List.append_assoc]
  simp [List.getD, h]
/-- From the top: what is read so far, and what is left. -/
theorem tv_top (l : List Nat) (a i n v : Nat) (h : tv l a (i + 1) + n * 256 ^ (i + 1) = v) : tv l a i + (n * 256 + l.getD (a + i) 0) * 256 ^ i = v := by
  have e : tv l a (i + 1) = tv l a i + l.getD (a + i) 0 * 256 ^ i := rfl
  rw [← h, e, Nat.add_mul, Nat.pow_succ, Nat.mul_assoc, Nat.mul_comm 256 (256 ^ i)]
  omega
theorem le_top {i n v x : Nat} (h : x + n * 256 ^ i = v) : n ≤ v := by
  have : n * 1 ≤ n * 256 ^ i := Nat.mul_le_mul_left _ (pow_pos' i)
  omega
end Go.Proofs.Ytjdcnajppjamgaa.PK
