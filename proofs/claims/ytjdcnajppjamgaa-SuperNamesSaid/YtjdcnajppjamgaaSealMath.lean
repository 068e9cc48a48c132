/-
  Plain mathematics of blocks that end in their own sum: what is laid, what is turned. No Go.
-/
import Derived.Test.YtjdcnajppjamgaaPolyMath
import Derived.Test.YtjdcnajppjamgaaPackMath
namespace Go.Proofs.Ytjdcnajppjamgaa.SL
set_option linter.unusedVariables false
set_option maxRecDepth 100000

def Bytes (l : List Nat) : Prop := ∀ x ∈ l, x < 256
/-- A block whose first bytes are b, noughts, and the sum of these. -/
def sld (b : List Nat) : List Nat := PK.pk (PK.wh b) 124 (PM.over 0 ((PK.wh b).take 124)) 4
/-- A block that ends in the sum of all ahead of it. -/
structure Sealed (m : List Nat) : Prop where
  len : m.length = 128
  byt : Bytes m
  eq : m = m.take 124 ++ PM.own4 (PM.over 0 (m.take 124))

theorem own4_length (s : Nat) : (PM.own4 s).length = 4 := rfl
theorem own4_bytes {s : Nat} (h : s < 4294967296) : Bytes (PM.own4 s) := by
  intro x hx
  simp [PM.own4] at hx
  omega
theorem own4_inj {s t : Nat} (h : s < 4294967296) (k : t < 4294967296) (e : PM.own4 s = PM.own4 t) : s = t := by
  simp [PM.own4] at e
  omega
theorem pk4 {m : List Nat} (h : m.length = 128) (n : Nat) (hn : n < 4294967296) : PK.pk m 124 n 4 = m.take 124 ++ PM.own4 n := by
  apply PK.ext_getD
  · rw [PK.pk_length, List.length_append, List.length_take, own4_length]; omega
  intro i hi
  rw [PK.pk_length, h] at hi
  by_cases h1 : i < 124
  · rw [PK.pk_out _ _ _ _ _ (.inl h1)]
    simp only [List.getD]
    rw [List.getElem?_append_left (by rw [List.length_take]; omega), List.getElem?_take, if_pos h1]
  · obtain ⟨j, rfl⟩ : ∃ j, i = 124 + j := ⟨i - 124, by omega⟩
    rw [PK.pk_in _ _ _ _ _ (by omega) (by omega)]
    simp only [List.getD]
    rw [List.getElem?_append_right (by rw [List.length_take]; omega), List.length_take]
    have e : 124 + j - min 124 m.length = j := by omega
    rw [e]
    have : j = 0 ∨ j = 1 ∨ j = 2 ∨ j = 3 := by omega
    rcases this with rfl | rfl | rfl | rfl <;> simp [PM.own4] <;> omega
theorem take_bytes {l : List Nat} (h : Bytes l) (k : Nat) : Bytes (l.take k) := fun x hx => h x (List.mem_of_mem_take hx)
theorem sld_eq {b : List Nat} (h : b.length ≤ 124) : sld b = (PK.wh b).take 124 ++ PM.own4 (PM.over 0 ((PK.wh b).take 124)) :=
  pk4 (PK.wh_length (by omega)) _ (PM.over_lt _ _)
theorem wh_take {b : List Nat} (h : b.length ≤ 124) : (PK.wh b).take 124 = b ++ List.replicate (124 - b.length) 0 := by
  unfold PK.wh
  rw [List.take_append]
  rw [List.take_of_length_le h, List.take_replicate]
  congr 2
  omega
theorem sld_take {b : List Nat} (h : b.length ≤ 124) : (sld b).take 124 = (PK.wh b).take 124 := by
  rw [sld_eq h, List.take_append, List.take_take, List.length_take, PK.wh_length (by omega)]
  simp
theorem sld_length (b : List Nat) (h : b.length ≤ 128) : (sld b).length = 128 := by unfold sld; rw [PK.pk_length, PK.wh_length h]
theorem sld_bytes {b : List Nat} (hb : Bytes b) : Bytes (sld b) := PK.pk_bytes (PK.wh_bytes hb) _ _ _
theorem sld_sealed {b : List Nat} (h : b.length ≤ 124) (hb : Bytes b) : Sealed (sld b) :=
  ⟨sld_length b (by omega), sld_bytes hb, by rw [sld_take h]; exact sld_eq h⟩
/-- What stands ahead of the sum. -/
theorem sld_get {b : List Nat} (h : b.length ≤ 124) (i : Nat) (hi : i < 124) : (sld b).getD i 0 = b.getD i 0 := by
  unfold sld
  rw [PK.pk_out _ _ _ _ _ (.inl hi), PK.wh_get]
theorem sld_tv {b : List Nat} (h : b.length ≤ 124) (a k : Nat) (ha : a + k ≤ 124) : PK.tv (sld b) a k = PK.tv b a k :=
  PK.tv_congr (fun j hj => sld_get h _ (by omega))
theorem sld_inj {b c : List Nat} (h : b.length ≤ 124) (k : c.length = b.length) (e : sld b = sld c) : b = c := by
  apply PK.ext_getD k.symm
  intro i hi
  have g1 := sld_get h i (by omega)
  have g2 := sld_get (b := c) (by omega) i (by omega)
  rw [e] at g1
  rw [← g1, ← g2]
theorem sld_first {b : List Nat} (h : b.length ≤ 124) (n : Nat) (hn : n ≤ b.length) : (sld b).take n = b.take n := by
  apply PK.ext_getD
  · rw [List.length_take, List.length_take, sld_length b (by omega)]; omega
  intro i hi
  rw [List.length_take, sld_length b (by omega)] at hi
  simp only [List.getD]
  rw [List.getElem?_take, List.getElem?_take, if_pos (by omega), if_pos (by omega)]
  have := sld_get h i (by omega)
  simpa [List.getD] using this

/-- Bytes of m from a + lo to a + hi - 1 turned by those of Y. -/
def tw (m Y : List Nat) (a lo hi : Nat) : List Nat := (List.range m.length).map fun i => if a + lo ≤ i ∧ i < a + hi then m.getD i 0 ^^^ Y.getD (i - a) 0 else m.getD i 0
theorem tw_length (m Y : List Nat) (a lo hi : Nat) : (tw m Y a lo hi).length = m.length := by simp [tw]
theorem tw_get (m Y : List Nat) (a lo hi i : Nat) (h : i < m.length) : (tw m Y a lo hi).getD i 0 = if a + lo ≤ i ∧ i < a + hi then m.getD i 0 ^^^ Y.getD (i - a) 0 else m.getD i 0 := by
  simp [tw, List.getD, h]
theorem tw_none (m Y : List Nat) (a lo : Nat) : tw m Y a lo lo = m := by
  apply PK.ext_getD (tw_length _ _ _ _ _)
  intro i hi
  rw [tw_length] at hi
  rw [tw_get _ _ _ _ _ _ hi, if_neg (by omega)]
theorem xor_byte {x y : Nat} (h : x < 256) (k : y < 256) : x ^^^ y < 256 := Nat.xor_lt_two_pow (n := 8) h k
theorem tw_bytes {m Y : List Nat} (hm : Bytes m) (hY : Bytes Y) (a lo hi : Nat) : Bytes (tw m Y a lo hi) := by
  intro x hx
  obtain ⟨i, hi1, rfl⟩ := List.mem_map.1 hx
  have := PK.getD_lt hm i
  have := PK.getD_lt hY (i - a)
  split
  · exact xor_byte (by assumption) (by assumption)
  · assumption
/-- One byte more, upwards. -/
theorem tw_up (m Y : List Nat) (a k : Nat) (h : a + k < m.length) : (tw m Y a 0 k).set (a + k) (m.getD (a + k) 0 ^^^ Y.getD k 0) = tw m Y a 0 (k + 1) := by
  apply PK.ext_getD
  · rw [List.length_set, tw_length, tw_length]
  intro i hi
  rw [List.length_set, tw_length] at hi
  rw [tw_get _ _ _ _ _ _ hi]
  by_cases e : i = a + k
  · subst e
    rw [if_pos (by omega)]
    have e2 : a + k - a = k := by omega
    rw [e2]
    simp [List.getD, tw_length, h]
  · have : ((tw m Y a 0 k).set (a + k) (m.getD (a + k) 0 ^^^ Y.getD k 0)).getD i 0 = (tw m Y a 0 k).getD i 0 := by simp only [List.getD]; rw [List.getElem?_set_ne (by omega)]
    rw [this, tw_get _ _ _ _ _ _ hi]
    by_cases g : a + 0 ≤ i ∧ i < a + k
    · rw [if_pos g, if_pos (by omega)]
    · rw [if_neg g, if_neg (by omega)]
/-- One byte more, downwards. -/
theorem tw_down (m Y : List Nat) (a k : Nat) (h : a + k < m.length) (hk : k < 4) : (tw m Y a (k + 1) 4).set (a + k) (m.getD (a + k) 0 ^^^ Y.getD k 0) = tw m Y a k 4 := by
  apply PK.ext_getD
  · rw [List.length_set, tw_length, tw_length]
  intro i hi
  rw [List.length_set, tw_length] at hi
  rw [tw_get _ _ _ _ _ _ hi]
  by_cases e : i = a + k
  · subst e
    rw [if_pos (by omega)]
    have e2 : a + k - a = k := by omega
    rw [e2]
    simp [List.getD, tw_length, h]
  · have : ((tw m Y a (k + 1) 4).set (a + k) (m.getD (a + k) 0 ^^^ Y.getD k 0)).getD i 0 = (tw m Y a (k + 1) 4).getD i 0 := by simp only [List.getD]; rw [List.getElem?_set_ne (by omega)]
    rw [this, tw_get _ _ _ _ _ _ hi]
    by_cases g : a + (k + 1) ≤ i ∧ i < a + 4
    · rw [if_pos g, if_pos (by omega)]
    · rw [if_neg g, if_neg (by omega)]
theorem tw_here (m Y : List Nat) (a lo hi k : Nat) (h : a + k < m.length) (hk : k < lo ∨ hi ≤ k) : (tw m Y a lo hi).getD (a + k) 0 = m.getD (a + k) 0 := by
  rw [tw_get _ _ _ _ _ _ h, if_neg (by omega)]

theorem cut4 {m : List Nat} {a : Nat} (h : a + 4 ≤ m.length) : m = m.take a ++ [m.getD a 0, m.getD (a + 1) 0, m.getD (a + 2) 0, m.getD (a + 3) 0] ++ m.drop (a + 4) := by
  apply PK.ext_getD
  · simp; omega
  intro i hi
  simp only [List.getD]
  by_cases h1 : i < a
  · rw [List.append_assoc, List.getElem?_append_left (by simp; omega), List.getElem?_take, if_pos h1]
  · by_cases h2 : i < a + 4
    · obtain ⟨j, rfl⟩ : ∃ j, i = a + j := ⟨i - a, by omega⟩
      rw [List.append_assoc, List.getElem?_append_right (by simp; omega), List.length_take]
      have e : a + j - min a m.length = j := by omega
      rw [e]
      have : j = 0 ∨ j = 1 ∨ j = 2 ∨ j = 3 := by omega
      rcases this with rfl | rfl | rfl | rfl <;> simp
    · rw [List.getElem?_append_right (by simp; omega), List.getElem?_drop]
      congr 1
      simp
      congr 1
      omega
theorem tw_cut {m Y : List Nat} {a : Nat} (h : a + 4 ≤ m.length) : tw m Y a 0 4 = m.take a ++ [m.getD a 0 ^^^ Y.getD 0 0, m.getD (a + 1) 0 ^^^ Y.getD 1 0, m.getD (a + 2) 0 ^^^ Y.getD 2 0, m.getD (a + 3) 0 ^^^ Y.getD 3 0] ++ m.drop (a + 4) := by
  have hl := tw_length m Y a 0 4
  rw [cut4 (m := tw m Y a 0 4) (a := a) (by omega)]
  have e0 : (tw m Y a 0 4).take a = m.take a := by
    apply PK.ext_getD
    · rw [List.length_take, List.length_take, hl]
    intro i hi
    rw [List.length_take, hl] at hi
    have := tw_get m Y a 0 4 i (by omega)
    rw [if_neg (by omega)] at this
    simp only [List.getD] at this ⊢
    rw [List.getElem?_take, List.getElem?_take, if_pos (by omega), if_pos (by omega)]
    exact this
  have e1 : (tw m Y a 0 4).drop (a + 4) = m.drop (a + 4) := by
    apply PK.ext_getD
    · rw [List.length_drop, List.length_drop, hl]
    intro i hi
    rw [List.length_drop, hl] at hi
    have := tw_get m Y a 0 4 (a + 4 + i) (by omega)
    rw [if_neg (by omega)] at this
    simp only [List.getD] at this ⊢
    rw [List.getElem?_drop, List.getElem?_drop]
    exact this
  rw [e0, e1]
  have g0 := tw_get m Y a 0 4 a (by omega)
  have g1 := tw_get m Y a 0 4 (a + 1) (by omega)
  have g2 := tw_get m Y a 0 4 (a + 2) (by omega)
  have g3 := tw_get m Y a 0 4 (a + 3) (by omega)
  rw [if_pos (by omega)] at g0 g1 g2 g3
  rw [g0, g1, g2, g3]
  have s0 : a - a = 0 := by omega
  have s1 : a + 1 - a = 1 := by omega
  have s2 : a + 2 - a = 2 := by omega
  have s3 : a + 3 - a = 3 := by omega
  rw [s0, s1, s2, s3]
theorem drop_bytes {l : List Nat} (h : Bytes l) (k : Nat) : Bytes (l.drop k) := fun x hx => h x (List.mem_of_mem_drop hx)

/-- Up to four bytes side by side turned, all ahead of the sum, or all its own: no block that ends in its sum. -/
theorem turned {m : List Nat} {a : Nat} {y0 y1 y2 y3 : Nat} (hm : Sealed m) (ha : a ≤ 120 ∨ a = 124) (h0 : y0 < 256) (h1 : y1 < 256) (h2 : y2 < 256) (h3 : y3 < 256) (hne : ¬ (y0 = 0 ∧ y1 = 0 ∧ y2 = 0 ∧ y3 = 0)) :
    ¬ Sealed (tw m [y0, y1, y2, y3] a 0 4) := by
  intro hs
  have hl := hm.len
  have hb := hm.byt
  have e := tw_cut (m := m) (Y := [y0, y1, y2, y3]) (a := a) (by omega)
  have es := hs.eq
  have em := hm.eq
  generalize hM : tw m [y0, y1, y2, y3] a 0 4 = M at *
  simp only [List.getD_cons_zero, List.getD_cons_succ] at e
  rcases ha with ha | rfl
  · have q := cut4 (m := m) (a := a) (by omega)
    have ed : m.drop 124 = M.drop 124 := by
      have : M.drop 124 = m.drop 124 := by
        rw [e, List.drop_append, List.drop_eq_nil_of_le (by simp; omega), List.nil_append, List.drop_drop]
        congr 1
        simp
        omega
      exact this.symm
    have k1 : m.drop 124 = PM.own4 (PM.over 0 (m.take 124)) := by
      have := congrArg (List.drop 124) em
      rw [List.drop_append, List.drop_take, List.length_take, hl] at this
      simpa using this
    have hML : M.length = 128 := hs.len
    have k2 : M.drop 124 = PM.own4 (PM.over 0 (M.take 124)) := by
      have := congrArg (List.drop 124) es
      rw [List.drop_append, List.drop_take, List.length_take, hML] at this
      simpa using this
    rw [k1, k2] at ed
    have eo := own4_inj (PM.over_lt _ _) (PM.over_lt _ _) ed
    have t1 : m.take 124 = m.take a ++ [m.getD a 0, m.getD (a + 1) 0, m.getD (a + 2) 0, m.getD (a + 3) 0] ++ (m.drop (a + 4)).take (120 - a) := by
      conv => lhs; rw [q]
      rw [List.take_append, List.take_of_length_le (by simp; omega)]
      congr 1
      simp
      congr 1
      omega
    have t2 : M.take 124 = m.take a ++ PM.x4 [m.getD a 0, m.getD (a + 1) 0, m.getD (a + 2) 0, m.getD (a + 3) 0] [y0, y1, y2, y3] ++ (m.drop (a + 4)).take (120 - a) := by
      rw [e, List.take_append, List.take_of_length_le (by simp; omega)]
      congr 1
      simp
      congr 1
      omega
    rw [t1, t2] at eo
    refine PM.turns (take_bytes hb a) ?_ (take_bytes (drop_bytes hb _) _) rfl h0 h1 h2 h3 hne eo.symm
    intro x hx
    simp only [List.mem_cons, List.not_mem_nil, or_false] at hx
    rcases hx with rfl | rfl | rfl | rfl <;> exact PK.getD_lt hb _
  · have hML : M.length = 128 := hs.len
    have t2 : M.take 124 = m.take 124 := by
      rw [e, List.append_assoc, List.take_append, List.take_take, List.length_take]
      simp [hl]
    rw [t2, ← em] at es
    have g : ∀ j, j < 4 → M.getD (124 + j) 0 = m.getD (124 + j) 0 ^^^ [y0, y1, y2, y3].getD j 0 := fun j hj => by
      rw [← hM, tw_get _ _ _ _ _ _ (by omega), if_pos (by omega)]
      congr 2
      omega
    rw [es] at g
    have z : ∀ x y : Nat, x = x ^^^ y → y = 0 := fun x y h => by
      have := congrArg (x ^^^ ·) h
      simp only [← Nat.xor_assoc, Nat.xor_self, Nat.zero_xor] at this
      exact this.symm
    exact hne ⟨z _ _ (g 0 (by omega)), z _ _ (g 1 (by omega)), z _ _ (g 2 (by omega)), z _ _ (g 3 (by omega))⟩
end Go.Proofs.Ytjdcnajppjamgaa.SL
