/-
  Rows of bytes of a call's own: what is kept while other memory is laid. Bytes that are laid at once.
-/
import Derived.Test.YtjdcnajppjamgaaBase
namespace Go.Proofs.Ytjdcnajppjamgaa.PW
open Go.RowKit
set_option linter.unusedVariables false
set_option maxRecDepth 100000

theorem Own.base {w : World} {base : Nat} {v : Value} {l : List Nat} (h : Own w base v l) : ∀ k, v.ownBlock = some k → base ≤ k := by
  rcases h.2 with ⟨rfl, h0⟩ | ⟨g, cap, cur, rfl, hg, -, -, -, -, -⟩
  · intro k hk; cases hk
  · intro k hk; cases hk; exact hg
theorem Own.blk {w : World} {base : Nat} {v : Value} {l : List Nat} (h : Own w base v l) : ∀ k, v.ownBlock = some k → k < w.heap.size := by
  rcases h.2 with ⟨rfl, h0⟩ | ⟨g, cap, cur, rfl, hg, hh, -, -, -, -⟩
  · intro k hk; cases hk
  · intro k hk
    cases hk
    rcases Nat.lt_or_ge g w.heap.size with hlt | hge
    · exact hlt
    · rw [Array.getElem?_eq_none hge] at hh; cases hh
theorem Own.here {w w' : World} {base : Nat} {v : Value} {l : List Nat} (h : Own w base v l) (hb : Below w.heap.size w w') : Own w' base v l := by
  have hk := h.blk
  refine ⟨h.1, ?_⟩
  rcases h.2 with h0 | ⟨g, cap, cur, rfl, hg, hh, h1, h2, h3, h4⟩
  · exact .inl h0
  · exact .inr ⟨g, cap, cur, rfl, hg, by rw [hb.block g (hk g rfl)]; exact hh, h1, h2, h3, h4⟩
/-- Bytes that are laid in a new block are the call's own. -/
theorem own_lit (w : World) (base : Nat) (l : List Nat) (n : Nat) (hn : l.length = n) (hm : n ≤ 1000000) (hb : base ≤ w.heap.size) (A : Array Value) (hA : A = (l.map bv).toArray) :
    Own (w.alloc (.cells A 5)) base (.slice (some ⟨w.heap.size, 0, none⟩) n n) l := by
  subst hn hA
  exact ⟨by simp, .inr ⟨w.heap.size, l.length, (l.map bv).toArray, rfl, hb, heap_alloc_new _ _, Nat.le_refl _, by unfold maxLen; omega, by simp, by
    have e : (List.map bv l).length = l.length := by simp
    show List.take (l.length * 1) (List.map bv l) = List.map bv l
    rw [List.take_of_length_le (by omega)]⟩⟩
/-- append of bytes onto a slice of the call's own: what it answers, and what stays. -/
theorem append_own {w : World} {base : Nat} {v : Value} {l : List Nat} (hown : Own w base v l) (hl : Bytes l) {a : Option Addr} {len cap : Nat} {m : List Nat} (hr : Rd w.heap.size w a len cap m) (hsum : l.length + m.length ≤ 1000000) (hbase : base ≤ w.heap.size) (n : Nat) (hn : l.length + m.length = n) :
    ∃ x c w', (Builtin.append_ #[22, 22] 22 #[v, .slice a len cap]).run Try.prog w = .ok (.slice x n c) w' ∧ Own w' base (.slice x n c) (l ++ m) ∧ Rd w'.heap.size w' x n c (l ++ m) ∧ Below base w w' := by
  obtain ⟨v', w', r, o, g, q⟩ := append_bytes w base v l hown w.heap.size a len cap m hr hsum hbase
  have hby : Bytes (l ++ m) := fun x hx => by
    rcases List.mem_append.1 hx with h | h
    · exact hl x h
    · exact hr.byt x h
  obtain ⟨x, c, rfl, rd⟩ := o.rd hby
  have e : (l ++ m).length = n := by rw [List.length_append]; exact hn
  rw [e] at r o rd
  refine ⟨x, c, w', r, o, rd, ?_⟩
  exact (Below.refl base w).grown g hbase (fun k hk => hown.base k hk)
theorem str_apart {l m : List Nat} (hl : Bytes l) (hm : Bytes m) (h : l ≠ m) : ((str l).toList == (str m).toList) = false := by
  rw [beq_eq_false_iff_ne]
  intro h2
  apply h
  refine str_inj hl hm ?_
  rw [ByteArray.toList_eq, ByteArray.toList_eq] at h2
  have : (str l).data = (str m).data := Array.toList_inj.1 h2
  cases hx : str l; cases hy : str m; simp_all
theorem bytes_xor (a b : Nat) (ha : a < 256) (hb : b < 256) : bits .xor .u8 (a : Int) (b : Int) = ((a ^^^ b : Nat) : Int) := u8_xor_nat a b ha hb
/-- A byte of a slice stored. -/
theorem Rd.put {B : Nat} {w : World} {g n c : Nat} {l : List Nat} (h : Rd B w (some ⟨g, 0, none⟩) n c l) (i x : Nat) (hi : i < l.length) (hx : x < 256) : Rd B (w.setCell ⟨g, i, none⟩ (.int .u8 (x : Int))) (some ⟨g, 0, none⟩) n c (l.set i x) := by
  refine ⟨by rw [List.length_set]; exact h.long, by rw [List.length_set]; exact h.fits, h.small, ?_, (fun h => nomatch h), fun _ => ?_⟩
  · intro y hy
    rcases List.mem_or_eq_of_mem_set hy with hy | rfl
    · exact h.byt y hy
    · exact hx
  · obtain ⟨b, off, e, hB, hc⟩ := h.cells (by intro e; rw [e] at hi; simp at hi)
    injection e with e
    injection e with e1 e2 _
    subst e1 e2
    refine ⟨g, 0, rfl, hB, fun j hj => ?_⟩
    rw [List.length_set] at hj
    have hcj := hc j hj
    by_cases hij : i = j
    · subst hij
      rw [Nat.zero_add] at hcj ⊢
      rw [World.cell?_setCell_same (h := hcj)]
      simp [List.getD, hi]
    · rw [World.cell?_setCell_other (h := by intro e; injection e with _ e; omega), hcj]
      simp only [List.getD]
      rw [List.getElem?_set_ne hij]
/-- Texts of bytes are the same where the bytes are. -/
theorem str_two {l m : List Nat} (hl : Bytes l) (hm : Bytes m) : ((str l).toList == (str m).toList) = decide (l = m) := by
  by_cases h : l = m
  · rw [h]; simp
  · rw [str_apart hl hm h]; exact (decide_eq_false h).symm
/-- A slice in memory of the call's own, that may be written. -/
def Mine (lo : Nat) (w : World) (a : Option Addr) : Prop := ∃ g, a = some ⟨g, 0, none⟩ ∧ lo ≤ g ∧ ∀ i, w.frozen? ⟨g, i, none⟩ = false
theorem map_bv_get (L : List Nat) (k : Nat) (h : k < L.length) : (L.map bv)[k]? = some (.int .u8 ((L.getD k 0 : Nat) : Int)) := by
  rw [List.getElem?_map, List.getElem?_eq_getElem h]
  simp [List.getD, h, bv]
end Go.Proofs.Ytjdcnajppjamgaa.PW
