/-
  Layer 8's laws, given what the program's calls answer.
-/
import Derived.Test.YtbhehicfenkbcaaSplitRefs
import Derived.Test.YtbhehicfenkbcaaHoist
namespace Go.Proofs.Ytbhehicfenkbcaa.PW
open Go.RowKit
open SK (Cfg)
set_option linter.unusedVariables false
set_option linter.unusedSimpArgs false
set_option maxRecDepth 100000

/-- What the program's calls answer. -/
structure SplitIs : Prop where
  check : ∀ (id : Nat) (mem chunk rows log heads : Int) (k : Nat) (at_ many : Int) (da : Option Addr) (dn dc : Nat) (w : World), Calls Try.prog 13 #[.agg #[.int .u32 (id : Int), .int .i64 mem, .int .i64 chunk, .int .i64 rows, .int .i64 log, .int .i64 heads], .agg #[.int .u8 (k : Int), .int .i64 at_, .int .i64 many, .slice da dn dc]] w fun e w' => e = .returned (.int .i64 ((QK.code ⟨id, mem, chunk, rows, log, heads⟩ k at_ many dn : Nat) : Int)) ∧ Below w.heap.size w w'
  blocks : ∀ (id : Nat) (mem chunk rows log heads : Int) (k : Nat) (at_ many : Int) (da : Option Addr) (dn dc : Nat) (w : World), Calls Try.prog 10 #[.agg #[.int .u32 (id : Int), .int .i64 mem, .int .i64 chunk, .int .i64 rows, .int .i64 log, .int .i64 heads], .agg #[.int .u8 (k : Int), .int .i64 at_, .int .i64 many, .slice da dn dc]] w (NewInts w (if QK.code ⟨id, mem, chunk, rows, log, heads⟩ k at_ many dn = 0 then QK.blks at_ many else []) (QK.code ⟨id, mem, chunk, rows, log, heads⟩ k at_ many dn))
  touch : ∀ (id : Nat) (mem chunk rows log heads : Int) (k : Nat) (at_ many : Int) (da : Option Addr) (dn dc : Nat) (k' : Nat) (at_' many' : Int) (da' : Option Addr) (dn' dc' : Nat) (w : World), Calls Try.prog 12 #[.agg #[.int .u32 (id : Int), .int .i64 mem, .int .i64 chunk, .int .i64 rows, .int .i64 log, .int .i64 heads], .agg #[.int .u8 (k : Int), .int .i64 at_, .int .i64 many, .slice da dn dc], .agg #[.int .u8 (k' : Int), .int .i64 at_', .int .i64 many', .slice da' dn' dc']] w fun e w' => e = .returned (.tuple #[.bool (if QK.tcode ⟨id, mem, chunk, rows, log, heads⟩ k at_ many dn k' at_' many' dn' = 0 then QK.meet k at_ many k' at_' many' else false), .int .i64 ((QK.tcode ⟨id, mem, chunk, rows, log, heads⟩ k at_ many dn k' at_' many' dn' : Nat) : Int)]) ∧ Below w.heap.size w w'

theorem law8Writes_any (k : Nat) (w : World) : Calls Try.prog 21 #[.int .u8 (k : Int)] w fun e w' => e = .returned (.bool (QK.wr k)) ∧ w = w' := by
  by_cases h2 : k = 2
  · subst h2
    go_enter Try.func21, Try.ntmps21
    go_wp2
    go_ret
    exact ⟨rfl, rfl⟩
  have e2 : ((k : Int) == 2) = false := beq_eq_false_iff_ne.2 (by omega)
  by_cases h3 : k = 3
  · subst h3
    go_enter Try.func21, Try.ntmps21
    go_wp2
    go_ret
    exact ⟨rfl, rfl⟩
  have e3 : ((k : Int) == 3) = false := beq_eq_false_iff_ne.2 (by omega)
  by_cases h5 : k = 5
  · subst h5
    go_enter Try.func21, Try.ntmps21
    go_wp2
    go_ret
    exact ⟨rfl, rfl⟩
  have e5 : ((k : Int) == 5) = false := beq_eq_false_iff_ne.2 (by omega)
  have hv : QK.wr k = false := by simp [QK.wr, h2, h3, h5]
  rw [hv]
  clear hv h2 h3 h5
  go_enter Try.func21, Try.ntmps21
  go_wp2
  go_ret
  exact ⟨rfl, rfl⟩

theorem four8_any (w : World) : Calls Try.prog 9 #[] w fun e w' => e = .returned (.agg #[.int .u32 0, .int .i64 3, .int .i64 1, .int .i64 2, .int .i64 12, .int .i64 2]) ∧ Below w.heap.size w w' := by
  go_enter Try.func9, Try.ntmps9
  go_wp2
  refine bodyPost_ret (v := .agg #[.int .u32 0, .int .i64 3, .int .i64 1, .int .i64 2, .int .i64 12, .int .i64 2]) (by simp [results, Try.results9, go_sem]) rfl ⟨rfl, ?_⟩
  exact (Below.refl _ _).alloc (Nat.le_refl _) _

/-- What the law's 'ask' makes. -/
def NewAsk (w : World) (k : Nat) (at_ many : Int) (e : Ending) (w' : World) : Prop := ∃ da dn dc, e = .returned (.agg #[.int .u8 (k : Int), .int .i64 at_, .int .i64 many, .slice da dn dc]) ∧ (dn : Int) = QK.need k many ∧ Below w.heap.size w w'
set_option maxHeartbeats 2000000 in
theorem ask8_any (k : Nat) (at_ many : Int) (w : World) (h : QK.bts k = false ∨ (0 ≤ many ∧ many ≤ 9)) :
    Calls Try.prog 11 #[.int .u8 (k : Int), .int .i64 at_, .int .i64 many] w (NewAsk w k at_ many) := by
  cases hb : QK.bts k with
  | false =>
    obtain ⟨n2, n3⟩ := QK.bts_no hb
    have e2 : ((k : Int) == 2) = false := beq_eq_false_iff_ne.2 (by omega)
    have e3 : ((k : Int) == 3) = false := beq_eq_false_iff_ne.2 (by omega)
    have HN : Hid (QK.need k many = 0) := by show _ = _; unfold QK.need; rw [hb]; rfl
    clear h hb
    go_enter Try.func11, Try.ntmps11
    go_wp2_with fail
    refine bodyPost_ret (v := .agg #[.int .u8 (k : Int), .int .i64 at_, .int .i64 many, .slice none 0 0]) (by simp [results, Try.results11, go_sem]) rfl ⟨none, 0, 0, rfl, HN.out.symm, ?_⟩
    exact ((Below.refl _ _).alloc (Nat.le_refl _) _).alloc (by simp) _
  | true =>
    have hm : 0 ≤ many ∧ many ≤ 9 := h.resolve_left (by rw [hb]; simp)
    have hk := QK.bts_yes hb
    have HN : Hid (QK.need k many = many * 128) := by show _ = _; unfold QK.need; rw [hb]; rfl
    obtain ⟨m, rfl⟩ := Int.eq_ofNat_of_zero_le hm.1
    have hm9 : m ≤ 9 := by omega
    have HMK : Hid (∀ w1 : World, (Instr.makeSlice 30 (.int .i64 (128 * (m : Int))) (.int .i64 (128 * (m : Int)))).run Try.prog w1 = .ok (.slice (some ⟨w1.heap.size, 0, none⟩) (128 * m) (128 * m)) (w1.alloc (.cells ((List.replicate (128 * m) 0).map bv).toArray 5))) := fun w1 => by
      have := run_make_bytes w1 (128 * m) (by omega)
      rw [show ((128 * m : Nat) : Int) = 128 * (m : Int) by omega] at this
      exact this
    generalize ((List.replicate (128 * m) 0).map bv).toArray = Z at *
    have hMK := HMK.out
    clear h hb hm
    rcases hk with rfl | rfl
    · go_enter Try.func11, Try.ntmps11
      go_wp2_with fail
      refine bodyPost_ret (v := .agg #[.int .u8 2, .int .i64 at_, .int .i64 (m : Int), .slice (some ⟨w.heap.size + 1 + 1, 0, none⟩) (128 * m) (128 * m)]) (by simp [results, Try.results11, go_sem]) rfl ⟨some ⟨w.heap.size + 1 + 1, 0, none⟩, 128 * m, 128 * m, rfl, by rw [HN.out]; omega, ?_⟩
      exact (((Below.refl _ _).alloc (Nat.le_refl _) _).alloc (by simp) _).alloc (by simp; omega) _
    · go_enter Try.func11, Try.ntmps11
      go_wp2_with fail
      refine bodyPost_ret (v := .agg #[.int .u8 3, .int .i64 at_, .int .i64 (m : Int), .slice (some ⟨w.heap.size + 1 + 1, 0, none⟩) (128 * m) (128 * m)]) (by simp [results, Try.results11, go_sem]) rfl ⟨some ⟨w.heap.size + 1 + 1, 0, none⟩, 128 * m, 128 * m, rfl, by rw [HN.out]; omega, ?_⟩
      exact (((Below.refl _ _).alloc (Nat.le_refl _) _).alloc (by simp) _).alloc (by simp; omega) _
def LitAsk (w : World) (kv : Int) (k : Nat) (at_ many : Int) (e : Ending) (w' : World) : Prop := ∃ da dn dc, e = .returned (.agg #[.int .u8 kv, .int .i64 at_, .int .i64 many, .slice da dn dc]) ∧ (dn : Int) = QK.need k many ∧ Below w.heap.size w w'

set_option maxHeartbeats 2000000 in
theorem alive8_any (I : SplitIs) (w : World) : Calls Try.prog 14 #[] w fun e w' => e = .returned (.bool true) ∧ Below w.heap.size w w' := by
  have B0 : Hid (Below w.heap.size w w) := Below.refl _ _
  have CF := Lib.hid four8_any
  have CA : Hid (∀ w1 : World, Calls Try.prog 11 #[.int .u8 1, .int .i64 1, .int .i64 2] w1 (LitAsk w1 1 1 1 2)) := fun w1 => ask8_any 1 1 2 w1 (.inl rfl)
  have CB : Hid (∀ (da : Option Addr) (dn dc : Nat) (w1 : World), (dn : Int) = QK.need 1 2 → Calls Try.prog 10 #[.agg #[.int .u32 0, .int .i64 3, .int .i64 1, .int .i64 2, .int .i64 12, .int .i64 2], .agg #[.int .u8 1, .int .i64 1, .int .i64 2, .slice da dn dc]] w1 (NewInts w1 [1, 2] 0)) := fun da dn dc w1 hn => by
    have := I.blocks 0 3 1 2 12 2 1 1 2 da dn dc w1
    have hq : QK.code ⟨0, 3, 1, 2, 12, 2⟩ 1 1 2 dn = 0 := by rw [QK.code_of hn]; decide +kernel
    rw [if_pos hq, hq] at this
    exact this
  go_enter Try.func14, Try.ntmps14
  go_wp2_with fail
  (with_reducible refine (CF.out _).mono ?_)
  rintro e w1 ⟨rfl, b1⟩
  have B1 := Lib.hid (thence B0.out b1 (Nat.le_refl _))
  clear b1 B0
  go_wp2_with fail
  (with_reducible refine (CA.out _).mono ?_)
  rintro e w2 ⟨da, dn, dc, rfl, hn, b2⟩
  have B2 := Lib.hid (thence B1.out b2 (Nat.le_refl _))
  have HN := Lib.hid hn
  clear hn
  clear b2 B1
  go_wp2_with fail
  (with_reducible refine (CB.out _ _ _ _ HN.out).mono ?_)
  rintro e w3 ⟨a, n, c, rfl, rg, b3⟩
  have B3 := Lib.hid (thence B2.out b3 (Nat.le_refl _))
  obtain rfl : n = 2 := rg.long
  obtain ⟨g, off, rfl, -, hg⟩ := rg.addr (by decide)
  have n0 := rg.num (k := 0) (by decide)
  have n1 := rg.num (k := 1) (by decide)
  rw [show ([1, 2] : List Int).getD 0 0 = 1 from rfl, Nat.add_zero] at n0
  rw [show ([1, 2] : List Int).getD 1 0 = 2 from rfl] at n1
  clear rg
  clear b3 B2
  go_wp2_with fail
  go_ret
  exact ⟨rfl, B3.out⟩
end Go.Proofs.Ytbhehicfenkbcaa.PW
