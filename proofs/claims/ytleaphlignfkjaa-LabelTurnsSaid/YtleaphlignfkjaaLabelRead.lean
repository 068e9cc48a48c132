/-
  Contracts of the document's own answers of layer 9: Write and Read.
-/
import Derived.Test.YtleaphlignfkjaaLabelRefs
namespace Go.Proofs.Ytleaphlignfkjaa.PW
open Go.RowKit
open SK (Cfg)
open LB (Lab)
set_option linter.unusedVariables false
set_option linter.unusedSimpArgs false
set_option maxRecDepth 100000

theorem refLBlock_any (id ev : Nat) (mem chunk rows log me lost done : Int) (op : Bool) (w : World) (hid : id < 4294967296) (h : Lab.mayP ⟨id, ev, mem, chunk, rows, log, me, lost, done, op⟩) :
    Calls Try.prog 30 #[.agg #[.int .u32 (id : Int), .int .u32 (ev : Int), .int .i64 mem, .int .i64 chunk, .int .i64 rows, .int .i64 log, .int .i64 me, .int .i64 lost, .int .i64 done, .bool op]] w fun e w' => ∃ g, e = .returned (.slice (some ⟨g, 0, none⟩) 128 128) ∧ w.heap.size ≤ g ∧ Blk w' g (Lab.block ⟨id, ev, mem, chunk, rows, log, me, lost, done, op⟩) ∧ Below w.heap.size w w' := by
  obtain ⟨⟨⟨a, b⟩, ⟨c, d⟩, ⟨e, f⟩, _, g, i⟩, j, k, m, n⟩ := h
  dsimp only [Lab.cfg] at a b c d e f g i j k m n
  have := Int.mul_le_mul d f (by omega) (by omega)
  obtain ⟨mem, rfl⟩ := Int.eq_ofNat_of_zero_le (show 0 ≤ mem by omega)
  obtain ⟨chunk, rfl⟩ := Int.eq_ofNat_of_zero_le (show 0 ≤ chunk by omega)
  obtain ⟨rows, rfl⟩ := Int.eq_ofNat_of_zero_le (show 0 ≤ rows by omega)
  obtain ⟨log, rfl⟩ := Int.eq_ofNat_of_zero_le (show 0 ≤ log by omega)
  obtain ⟨me, rfl⟩ := Int.eq_ofNat_of_zero_le (show 0 ≤ me by omega)
  obtain ⟨done, rfl⟩ := Int.eq_ofNat_of_zero_le (show 0 ≤ done by omega)
  exact refLBlock_nat id ev mem chunk rows log me done lost op w hid (by omega) (by omega) (by omega) (by omega) (by omega) (by omega) (by omega) (by omega)

set_option maxHeartbeats 1000000 in
theorem refLWrite_any (id ev : Nat) (mem chunk rows log me lost done : Int) (op : Bool) (w : World) (hid : id < 4294967296) :
    Calls Try.prog 15 #[.agg #[.int .u32 (id : Int), .int .u32 (ev : Int), .int .i64 mem, .int .i64 chunk, .int .i64 rows, .int .i64 log, .int .i64 me, .int .i64 lost, .int .i64 done, .bool op]] w fun e w' => ∃ a n c, e = .returned (.tuple #[.slice a n c, .int .i64 ((Lab.code ⟨id, ev, mem, chunk, rows, log, me, lost, done, op⟩ : Nat) : Int)]) ∧ Rd w'.heap.size w' a n c (Lab.text ⟨id, ev, mem, chunk, rows, log, me, lost, done, op⟩) ∧ Below w.heap.size w w' := by
  have CM := Lib.hid (refLMay_any id ev mem chunk rows log me lost done op)
  have B0 : Hid (Below w.heap.size w (w.alloc (.cells #[.int .u32 (id : Int), .int .u32 (ev : Int), .int .i64 mem, .int .i64 chunk, .int .i64 rows, .int .i64 log, .int .i64 me, .int .i64 lost, .int .i64 done, .bool op] 28))) := (Below.refl _ _).alloc (Nat.le_refl _) _
  have BX := Lib.hid (Bx.new w [.int .u32 (id : Int), .int .u32 (ev : Int), .int .i64 mem, .int .i64 chunk, .int .i64 rows, .int .i64 log, .int .i64 me, .int .i64 lost, .int .i64 done, .bool op] 28)
  cases hm : Lab.may ⟨id, ev, mem, chunk, rows, log, me, lost, done, op⟩ with
  | true =>
    have CB := Lib.hid (fun w1 => refLBlock_any id ev mem chunk rows log me lost done op w1 hid (LB.may_iff.1 hm))
    have HB : Hid (Bytes (Lab.block ⟨id, ev, mem, chunk, rows, log, me, lost, done, op⟩)) := LB.block_bytes (LB.may_iff.1 hm) hid
    have HL : Hid ((Lab.block ⟨id, ev, mem, chunk, rows, log, me, lost, done, op⟩).length = 128) := LB.block_length _
    rw [LB.code_yes hm, LB.text_yes hm]
    rw [hm] at CM
    clear hm hid
    generalize Lab.block ⟨id, ev, mem, chunk, rows, log, me, lost, done, op⟩ = m at *
    go_enter Try.func15, Try.ntmps15
    go_wp2_with fail
    (with_reducible refine (CM.out _).mono ?_)
    rintro e w1 ⟨rfl, b1⟩
    have B1 := Lib.hid (thence B0.out b1 (Nat.le_refl _))
    replace BX := Lib.hid (BX.out.here b1)
    obtain ⟨c0, c1, c2, c3, c4, c5, c6, c7, c8, c9⟩ := BX.out.ten
    clear b1
    go_wp2_with fail
    (with_reducible refine (CB.out _).mono ?_)
    rintro e w2 ⟨g, rfl, hg, hblk, b2⟩
    go_wp2_with fail
    go_ret2
    exact ⟨_, _, _, rfl, hblk.rd HL.out HB.out, thence B1.out b2 (Nat.le_refl _)⟩
  | false =>
    rw [LB.code_no hm, LB.text_no hm]
    rw [hm] at CM
    clear hm hid
    go_enter Try.func15, Try.ntmps15
    go_wp2_with fail
    (with_reducible refine (CM.out _).mono ?_)
    rintro e w1 ⟨rfl, b1⟩
    have B1 := Lib.hid (thence B0.out b1 (Nat.le_refl _))
    clear b1
    go_wp2_with fail
    go_ret2
    exact ⟨_, _, _, rfl, rd_nil _ _, B1.out⟩

set_option maxHeartbeats 1000000 in
theorem refLRead_text (a : Option Addr) (len cap : Nat) (l : List Nat) (w : World) (hr : Rd w.heap.size w a len cap l) (h : l.length ≠ 0) (k : l.length ≠ 128) :
    Calls Try.prog 17 #[.slice a len cap] w fun e w' => e = .returned (.tuple #[labV (LB.rd l).1, .int .i64 (((LB.rd l).2 : Nat) : Int)]) ∧ Below w.heap.size w w' := by
  rw [LB.rd_text h k]
  have C := Lib.hid (fun w1 (hr1 : Rd w1.heap.size w1 a len cap l) => refblock_no a len cap l w1 hr1 h k)
  have B0 : Hid (Below w.heap.size w (w.alloc (.cells #[.int .u32 0, .int .u32 0, .int .i64 0, .int .i64 0, .int .i64 0, .int .i64 0, .int .i64 0, .int .i64 0, .int .i64 0, .bool false] 28))) := (Below.refl _ _).alloc (Nat.le_refl _) _
  have HR := Lib.hid hr
  clear hr h k
  go_enter Try.func17, Try.ntmps17
  go_wp2_with fail
  refine (C.out _ ((HR.out.below B0.out).mono B0.out.size)).mono ?_
  rintro e w1 ⟨rfl, rfl⟩
  go_wp2_with fail
  exact bodyPost_ret (v := .tuple #[labV Lab.zero, .int .i64 3]) (by simp [results, Try.results17, go_sem]; rfl) rfl ⟨rfl, B0.out⟩

/-- Ten cells that may be written. -/
theorem Bx.froz10 {w : World} {g : Nat} {cs : List Value} (h : Bx w g cs) : w.frozen? ⟨g, 0, none⟩ = false ∧ w.frozen? ⟨g, 1, none⟩ = false ∧ w.frozen? ⟨g, 2, none⟩ = false ∧ w.frozen? ⟨g, 3, none⟩ = false ∧ w.frozen? ⟨g, 4, none⟩ = false ∧ w.frozen? ⟨g, 5, none⟩ = false ∧ w.frozen? ⟨g, 6, none⟩ = false ∧ w.frozen? ⟨g, 7, none⟩ = false ∧ w.frozen? ⟨g, 8, none⟩ = false ∧ w.frozen? ⟨g, 9, none⟩ = false :=
  ⟨h.frozen 0, h.frozen 1, h.frozen 2, h.frozen 3, h.frozen 4, h.frozen 5, h.frozen 6, h.frozen 7, h.frozen 8, h.frozen 9⟩

set_option maxHeartbeats 4000000 in
theorem refLRead_block (a : Option Addr) (len cap : Nat) (l : List Nat) (w : World) (hr : Rd w.heap.size w a len cap l) (h : l.length = 0 ∨ l.length = 128) :
    Calls Try.prog 17 #[.slice a len cap] w fun e w' => e = .returned (.tuple #[labV (LB.rd l).1, .int .i64 (((LB.rd l).2 : Nat) : Int)]) ∧ Below w.heap.size w w' := by
  have CK := Lib.hid (fun w1 (hr1 : Rd w1.heap.size w1 a len cap l) => refblock_yes a len cap l w1 hr1 h)
  have CW := Lib.hid (fun w1 (hr1 : Rd w1.heap.size w1 a len cap l) => refwhole_any a len cap l w1 (by omega) hr1)
  obtain ⟨X, cd, hX⟩ : ∃ X cd, LB.rd l = (X, cd) := ⟨_, _, rfl⟩
  rw [hX]
  have HX : Hid ((if LB.good (PK.wh l) = true then (LB.parse (PK.wh l), 0) else (Lab.zero, 90)) = (X, cd)) := by show _ = _; rw [← hX]; unfold LB.rd; rw [if_neg (show ¬ (l.length ≠ 0 ∧ l.length ≠ 128) by omega)]
  clear hX
  show Calls _ _ _ _ fun e w' => e = .returned (.tuple #[labV X, .int .i64 ((cd : Nat) : Int)]) ∧ Below w.heap.size w w'
  have HL : Hid ((PK.wh l).length = 128) := PK.wh_length (by omega)
  have HB : Hid (Bytes (PK.wh l)) := PK.wh_bytes hr.byt
  generalize PK.wh l = m at *
  have B0 : Hid (Below w.heap.size w (w.alloc (.cells #[.int .u32 0, .int .u32 0, .int .i64 0, .int .i64 0, .int .i64 0, .int .i64 0, .int .i64 0, .int .i64 0, .int .i64 0, .bool false] 28))) := (Below.refl _ _).alloc (Nat.le_refl _) _
  have BR := Lib.hid (Bx.new w [.int .u32 0, .int .u32 0, .int .i64 0, .int .i64 0, .int .i64 0, .int .i64 0, .int .i64 0, .int .i64 0, .int .i64 0, .bool false] 28)
  have HR := Lib.hid hr
  clear hr h
  go_enter Try.func17, Try.ntmps17
  go_wp2_with fail
  replace BR : Hid (Bx (w.alloc (.cells #[.int .u32 0, .int .u32 0, .int .i64 0, .int .i64 0, .int .i64 0, .int .i64 0, .int .i64 0, .int .i64 0, .int .i64 0, .bool false] 28)) w.heap.size [.int .u32 0, .int .u32 0, .int .i64 0, .int .i64 0, .int .i64 0, .int .i64 0, .int .i64 0, .int .i64 0, .int .i64 0, .bool false]) := BR
  have HR0 := Lib.hid ((HR.out.below B0.out).mono B0.out.size)
  generalize w.alloc (.cells #[.int .u32 0, .int .u32 0, .int .i64 0, .int .i64 0, .int .i64 0, .int .i64 0, .int .i64 0, .int .i64 0, .int .i64 0, .bool false] 28) = W0 at *
  refine (CK.out _ HR0.out).mono ?_
  rintro e w1 ⟨rfl, rfl⟩
  go_wp2_with fail
  refine (CW.out _ HR0.out).mono ?_
  rintro e W1 ⟨g, rfl, hg, hblk, b1⟩
  have HK := Lib.hid hblk
  have B1 := Lib.hid b1
  replace BR := Lib.hid (BR.out.here b1)
  have R1 := Lib.hid (hblk.rd HL.out HB.out)
  have hgl := hblk.lt
  clear b1 hblk CK CW HR HR0
  go_wp2_with fail
  have f9 := HK.out.cell 9 (by rw [HL.out]; decide)
  have f10 := HK.out.cell 10 (by rw [HL.out]; decide)
  have f11 := HK.out.cell 11 (by rw [HL.out]; decide)
  have f12 := HK.out.cell 12 (by rw [HL.out]; decide)
  have f13 := HK.out.cell 13 (by rw [HL.out]; decide)
  have f14 := HK.out.cell 14 (by rw [HL.out]; decide)
  have f15 := HK.out.cell 15 (by rw [HL.out]; decide)
  have f16 := HK.out.cell 16 (by rw [HL.out]; decide)
  have CN1 : Hid (∀ w1, Below W1.heap.size W1 w1 → Calls Try.prog 33 #[.slice (some ⟨g, 0, none⟩) 128 128, .int .i64 1] w1 fun e w' => e = .returned (.int .u32 ((PK.tv m 1 4 : Nat) : Int)) ∧ Below w1.heap.size w1 w') := fun w1 hb => refNumber_any _ 128 128 m 1 _ w1 ((R1.out.below hb).mono hb.size) ⟨.inr HL.out, by decide, by decide, by decide, by decide⟩ (by rw [PK.wh_full HL.out])
  have CN5 : Hid (∀ w1, Below W1.heap.size W1 w1 → Calls Try.prog 33 #[.slice (some ⟨g, 0, none⟩) 128 128, .int .i64 5] w1 fun e w' => e = .returned (.int .u32 ((PK.tv m 5 4 : Nat) : Int)) ∧ Below w1.heap.size w1 w') := fun w1 hb => refNumber_any _ 128 128 m 5 _ w1 ((R1.out.below hb).mono hb.size) ⟨.inr HL.out, by decide, by decide, by decide, by decide⟩ (by rw [PK.wh_full HL.out])
  have HP : Hid (LB.parse m = ⟨PK.tv m 1 4, PK.tv m 5 4, m.getD 9 0, m.getD 10 0, m.getD 11 0, m.getD 12 0, m.getD 13 0, if m.getD 14 0 = 255 then -1 else m.getD 14 0, m.getD 15 0, decide (m.getD 16 0 = 1)⟩) := rfl
  have HI : Hid (PK.tv m 1 4 < 4294967296) := LB.tv_lt4 HB.out 1
  have w9 : IntKind.i64.wrap ((m.getD 9 0 : Nat) : Int) = ((m.getD 9 0 : Nat) : Int) := by have := PK.getD_lt HB.out 9; exact IntWalk.i64_in _ (by omega)
  have w10 : IntKind.i64.wrap ((m.getD 10 0 : Nat) : Int) = ((m.getD 10 0 : Nat) : Int) := by have := PK.getD_lt HB.out 10; exact IntWalk.i64_in _ (by omega)
  have w11 : IntKind.i64.wrap ((m.getD 11 0 : Nat) : Int) = ((m.getD 11 0 : Nat) : Int) := by have := PK.getD_lt HB.out 11; exact IntWalk.i64_in _ (by omega)
  have w12 : IntKind.i64.wrap ((m.getD 12 0 : Nat) : Int) = ((m.getD 12 0 : Nat) : Int) := by have := PK.getD_lt HB.out 12; exact IntWalk.i64_in _ (by omega)
  have w13 : IntKind.i64.wrap ((m.getD 13 0 : Nat) : Int) = ((m.getD 13 0 : Nat) : Int) := by have := PK.getD_lt HB.out 13; exact IntWalk.i64_in _ (by omega)
  have w14 : IntKind.i64.wrap ((m.getD 14 0 : Nat) : Int) = ((m.getD 14 0 : Nat) : Int) := by have := PK.getD_lt HB.out 14; exact IntWalk.i64_in _ (by omega)
  have w15 : IntKind.i64.wrap ((m.getD 15 0 : Nat) : Int) = ((m.getD 15 0 : Nat) : Int) := by have := PK.getD_lt HB.out 15; exact IntWalk.i64_in _ (by omega)
  have w16 : IntKind.i64.wrap ((m.getD 16 0 : Nat) : Int) = ((m.getD 16 0 : Nat) : Int) := by have := PK.getD_lt HB.out 16; exact IntWalk.i64_in _ (by omega)
  have e16 : (((m.getD 16 0 : Nat) : Int) == 1) = decide (m.getD 16 0 = 1) := by
    rw [Bool.eq_iff_iff]; simp; omega
  generalize decide (m.getD 16 0 = 1) = op at *
  generalize PK.tv m 1 4 = ni at *
  generalize PK.tv m 5 4 = nv at *
  generalize m.getD 9 0 = n9 at *
  generalize m.getD 10 0 = n10 at *
  generalize m.getD 11 0 = n11 at *
  generalize m.getD 12 0 = n12 at *
  generalize m.getD 13 0 = n13 at *
  generalize m.getD 14 0 = n14 at *
  generalize m.getD 15 0 = n15 at *
  generalize m.getD 16 0 = n16 at *
  refine wp_region_noPanic ?_
  refine PX.wp_region_y (fun w' => Below W1.heap.size W1 w') [] (by kernel_rfl) (Below.refl _ _).drew (fun hHeld => ?_)
  refine PX.wpAnyY_take (i := 0) (oi := ?_) (v := ?_) ?_ (by kernel_rfl) (by kernel_rfl) (by kernel_rfl) (by kernel_rfl) (by kernel_rfl) (fun _ _ _ h => h) (Or.inl ⟨?_, ?_⟩) (by assumption) ?_
  rotate_left 2
  · simp only [List.getElem?_toArray, List.getElem?_cons_succ, List.getElem?_cons_zero]; rfl
  · rfl
  · intro w hSw; (try dsimp only at hSw); go_simp <;> with_reducible rfl
  (try simp only [Act.put, List.setIfInBounds_toArray, List.set_cons_zero, List.set_cons_succ])
  refine PX.wpAnyY_take (i := 2) (oi := ?_) (v := ?_) ?_ (by kernel_rfl) (by kernel_rfl) (by kernel_rfl) (by kernel_rfl) (by kernel_rfl) (fun _ _ _ h => h) (Or.inl ⟨?_, ?_⟩) (by assumption) ?_
  rotate_left 2
  · simp only [List.getElem?_toArray, List.getElem?_cons_succ, List.getElem?_cons_zero]; rfl
  · rfl
  · intro w hSw; (try dsimp only at hSw); go_simp <;> with_reducible rfl
  (try simp only [Act.put, List.setIfInBounds_toArray, List.set_cons_zero, List.set_cons_succ])
  refine PX.wpAnyY_take (i := 4) (oi := ?_) (v := ?_) ?_ (by kernel_rfl) (by kernel_rfl) (by kernel_rfl) (by kernel_rfl) (by kernel_rfl) (fun _ _ _ h => h) (Or.inl ⟨?_, ?_⟩) (by assumption) ?_
  rotate_left 2
  · simp only [List.getElem?_toArray, List.getElem?_cons_succ, List.getElem?_cons_zero]; rfl
  · rfl
  · intro w hSw; (try dsimp only at hSw); go_simp <;> with_reducible rfl
  (try simp only [Act.put, List.setIfInBounds_toArray, List.set_cons_zero, List.set_cons_succ])
  refine PX.wpAnyY_take (i := 5) (oi := ?_) (v := ?_) ?_ (by kernel_rfl) (by kernel_rfl) (by kernel_rfl) (by kernel_rfl) (by kernel_rfl) (fun _ _ _ h => h) (Or.inl ⟨?_, ?_⟩) (by assumption) ?_
  rotate_left 2
  · simp only [List.getElem?_toArray, List.getElem?_cons_succ, List.getElem?_cons_zero]; rfl
  · rfl
  · intro w hSw; (try dsimp only at hSw); go_simp <;> with_reducible rfl
  (try simp only [Act.put, List.setIfInBounds_toArray, List.set_cons_zero, List.set_cons_succ])
  refine PX.wpAnyY_take (i := 6) (oi := ?_) (v := ?_) ?_ (by kernel_rfl) (by kernel_rfl) (by kernel_rfl) (by kernel_rfl) (by kernel_rfl) (fun _ _ _ h => h) (Or.inl ⟨?_, ?_⟩) (by assumption) ?_
  rotate_left 2
  · simp only [List.getElem?_toArray, List.getElem?_cons_succ, List.getElem?_cons_zero]; rfl
  · rfl
  · intro w hSw; (try dsimp only at hSw); have hC := fun (b o : Nat) (h : b < W1.heap.size) => Below.cell hSw (p := ⟨b, o, none⟩) h; go_simp <;> with_reducible rfl
  (try simp only [Act.put, List.setIfInBounds_toArray, List.set_cons_zero, List.set_cons_succ])
  refine PX.wpAnyY_take (i := 7) (oi := ?_) (v := ?_) ?_ (by kernel_rfl) (by kernel_rfl) (by kernel_rfl) (by kernel_rfl) (by kernel_rfl) (fun _ _ _ h => h) (Or.inl ⟨?_, ?_⟩) (by assumption) ?_
  rotate_left 2
  · simp only [List.getElem?_toArray, List.getElem?_cons_succ, List.getElem?_cons_zero]; rfl
  · rfl
  · intro w hSw; (try dsimp only at hSw); go_simp <;> with_reducible rfl
  (try simp only [Act.put, List.setIfInBounds_toArray, List.set_cons_zero, List.set_cons_succ])
  refine PX.wpAnyY_take (i := 8) (oi := ?_) (v := ?_) ?_ (by kernel_rfl) (by kernel_rfl) (by kernel_rfl) (by kernel_rfl) (by kernel_rfl) (fun _ _ _ h => h) (Or.inl ⟨?_, ?_⟩) (by assumption) ?_
  rotate_left 2
  · simp only [List.getElem?_toArray, List.getElem?_cons_succ, List.getElem?_cons_zero]; rfl
  · rfl
  · intro w hSw; (try dsimp only at hSw); go_simp <;> with_reducible rfl
  (try simp only [Act.put, List.setIfInBounds_toArray, List.set_cons_zero, List.set_cons_succ])
  refine PX.wpAnyY_take (i := 9) (oi := ?_) (v := ?_) ?_ (by kernel_rfl) (by kernel_rfl) (by kernel_rfl) (by kernel_rfl) (by kernel_rfl) (fun _ _ _ h => h) (Or.inl ⟨?_, ?_⟩) (by assumption) ?_
  rotate_left 2
  · simp only [List.getElem?_toArray, List.getElem?_cons_succ, List.getElem?_cons_zero]; rfl
  · rfl
  · intro w hSw; (try dsimp only at hSw); go_simp <;> with_reducible rfl
  (try simp only [Act.put, List.setIfInBounds_toArray, List.set_cons_zero, List.set_cons_succ])
  refine PX.wpAnyY_take (i := 10) (oi := ?_) (v := ?_) ?_ (by kernel_rfl) (by kernel_rfl) (by kernel_rfl) (by kernel_rfl) (by kernel_rfl) (fun _ _ _ h => h) (Or.inl ⟨?_, ?_⟩) (by assumption) ?_
  rotate_left 2
  · simp only [List.getElem?_toArray, List.getElem?_cons_succ, List.getElem?_cons_zero]; rfl
  · rfl
  · intro w hSw; (try dsimp only at hSw); have hC := fun (b o : Nat) (h : b < W1.heap.size) => Below.cell hSw (p := ⟨b, o, none⟩) h; go_simp <;> with_reducible rfl
  (try simp only [Act.put, List.setIfInBounds_toArray, List.set_cons_zero, List.set_cons_succ])
  refine PX.wpAnyY_take (i := 11) (oi := ?_) (v := ?_) ?_ (by kernel_rfl) (by kernel_rfl) (by kernel_rfl) (by kernel_rfl) (by kernel_rfl) (fun _ _ _ h => h) (Or.inl ⟨?_, ?_⟩) (by assumption) ?_
  rotate_left 2
  · simp only [List.getElem?_toArray, List.getElem?_cons_succ, List.getElem?_cons_zero]; rfl
  · rfl
  · intro w hSw; (try dsimp only at hSw); go_simp <;> with_reducible rfl
  (try simp only [Act.put, List.setIfInBounds_toArray, List.set_cons_zero, List.set_cons_succ])
  refine PX.wpAnyY_take (i := 12) (oi := ?_) (v := ?_) ?_ (by kernel_rfl) (by kernel_rfl) (by kernel_rfl) (by kernel_rfl) (by kernel_rfl) (fun _ _ _ h => h) (Or.inl ⟨?_, ?_⟩) (by assumption) ?_
  rotate_left 2
  · simp only [List.getElem?_toArray, List.getElem?_cons_succ, List.getElem?_cons_zero]; rfl
  · rfl
  · intro w hSw; (try dsimp only at hSw); go_simp <;> with_reducible rfl
  (try simp only [Act.put, List.setIfInBounds_toArray, List.set_cons_zero, List.set_cons_succ])
  refine PX.wpAnyY_take (i := 13) (oi := ?_) (v := ?_) ?_ (by kernel_rfl) (by kernel_rfl) (by kernel_rfl) (by kernel_rfl) (by kernel_rfl) (fun _ _ _ h => h) (Or.inl ⟨?_, ?_⟩) (by assumption) ?_
  rotate_left 2
  · simp only [List.getElem?_toArray, List.getElem?_cons_succ, List.getElem?_cons_zero]; rfl
  · rfl
  · intro w hSw; (try dsimp only at hSw); go_simp <;> with_reducible rfl
  (try simp only [Act.put, List.setIfInBounds_toArray, List.set_cons_zero, List.set_cons_succ])
  refine PX.wpAnyY_take (i := 14) (oi := ?_) (v := ?_) ?_ (by kernel_rfl) (by kernel_rfl) (by kernel_rfl) (by kernel_rfl) (by kernel_rfl) (fun _ _ _ h => h) (Or.inl ⟨?_, ?_⟩) (by assumption) ?_
  rotate_left 2
  · simp only [List.getElem?_toArray, List.getElem?_cons_succ, List.getElem?_cons_zero]; rfl
  · rfl
  · intro w hSw; (try dsimp only at hSw); have hC := fun (b o : Nat) (h : b < W1.heap.size) => Below.cell hSw (p := ⟨b, o, none⟩) h; go_simp <;> with_reducible rfl
  (try simp only [Act.put, List.setIfInBounds_toArray, List.set_cons_zero, List.set_cons_succ])
  refine PX.wpAnyY_take (i := 15) (oi := ?_) (v := ?_) ?_ (by kernel_rfl) (by kernel_rfl) (by kernel_rfl) (by kernel_rfl) (by kernel_rfl) (fun _ _ _ h => h) (Or.inl ⟨?_, ?_⟩) (by assumption) ?_
  rotate_left 2
  · simp only [List.getElem?_toArray, List.getElem?_cons_succ, List.getElem?_cons_zero]; rfl
  · rfl
  · intro w hSw; (try dsimp only at hSw); go_simp <;> with_reducible rfl
  (try simp only [Act.put, List.setIfInBounds_toArray, List.set_cons_zero, List.set_cons_succ])
  refine PX.wpAnyY_take (i := 16) (oi := ?_) (v := ?_) ?_ (by kernel_rfl) (by kernel_rfl) (by kernel_rfl) (by kernel_rfl) (by kernel_rfl) (fun _ _ _ h => h) (Or.inl ⟨?_, ?_⟩) (by assumption) ?_
  rotate_left 2
  · simp only [List.getElem?_toArray, List.getElem?_cons_succ, List.getElem?_cons_zero]; rfl
  · rfl
  · intro w hSw; (try dsimp only at hSw); go_simp <;> with_reducible rfl
  (try simp only [Act.put, List.setIfInBounds_toArray, List.set_cons_zero, List.set_cons_succ])
  refine PX.wpAnyY_take (i := 17) (oi := ?_) (v := ?_) ?_ (by kernel_rfl) (by kernel_rfl) (by kernel_rfl) (by kernel_rfl) (by kernel_rfl) (fun _ _ _ h => h) (Or.inl ⟨?_, ?_⟩) (by assumption) ?_
  rotate_left 2
  · simp only [List.getElem?_toArray, List.getElem?_cons_succ, List.getElem?_cons_zero]; rfl
  · rfl
  · intro w hSw; (try dsimp only at hSw); go_simp <;> with_reducible rfl
  (try simp only [Act.put, List.setIfInBounds_toArray, List.set_cons_zero, List.set_cons_succ])
  refine PX.wpAnyY_take (i := 18) (oi := ?_) (v := ?_) ?_ (by kernel_rfl) (by kernel_rfl) (by kernel_rfl) (by kernel_rfl) (by kernel_rfl) (fun _ _ _ h => h) (Or.inl ⟨?_, ?_⟩) (by assumption) ?_
  rotate_left 2
  · simp only [List.getElem?_toArray, List.getElem?_cons_succ, List.getElem?_cons_zero]; rfl
  · rfl
  · intro w hSw; (try dsimp only at hSw); have hC := fun (b o : Nat) (h : b < W1.heap.size) => Below.cell hSw (p := ⟨b, o, none⟩) h; go_simp <;> with_reducible rfl
  (try simp only [Act.put, List.setIfInBounds_toArray, List.set_cons_zero, List.set_cons_succ])
  refine PX.wpAnyY_take (i := 19) (oi := ?_) (v := ?_) ?_ (by kernel_rfl) (by kernel_rfl) (by kernel_rfl) (by kernel_rfl) (by kernel_rfl) (fun _ _ _ h => h) (Or.inl ⟨?_, ?_⟩) (by assumption) ?_
  rotate_left 2
  · simp only [List.getElem?_toArray, List.getElem?_cons_succ, List.getElem?_cons_zero]; rfl
  · rfl
  · intro w hSw; (try dsimp only at hSw); go_simp <;> with_reducible rfl
  (try simp only [Act.put, List.setIfInBounds_toArray, List.set_cons_zero, List.set_cons_succ])
  refine PX.wpAnyY_take (i := 20) (oi := ?_) (v := ?_) ?_ (by kernel_rfl) (by kernel_rfl) (by kernel_rfl) (by kernel_rfl) (by kernel_rfl) (fun _ _ _ h => h) (Or.inl ⟨?_, ?_⟩) (by assumption) ?_
  rotate_left 2
  · simp only [List.getElem?_toArray, List.getElem?_cons_succ, List.getElem?_cons_zero]; rfl
  · rfl
  · intro w hSw; (try dsimp only at hSw); go_simp <;> with_reducible rfl
  (try simp only [Act.put, List.setIfInBounds_toArray, List.set_cons_zero, List.set_cons_succ])
  refine PX.wpAnyY_take (i := 21) (oi := ?_) (v := ?_) ?_ (by kernel_rfl) (by kernel_rfl) (by kernel_rfl) (by kernel_rfl) (by kernel_rfl) (fun _ _ _ h => h) (Or.inl ⟨?_, ?_⟩) (by assumption) ?_
  rotate_left 2
  · simp only [List.getElem?_toArray, List.getElem?_cons_succ, List.getElem?_cons_zero]; rfl
  · rfl
  · intro w hSw; (try dsimp only at hSw); go_simp <;> with_reducible rfl
  (try simp only [Act.put, List.setIfInBounds_toArray, List.set_cons_zero, List.set_cons_succ])
  refine PX.wpAnyY_take (i := 22) (oi := ?_) (v := ?_) ?_ (by kernel_rfl) (by kernel_rfl) (by kernel_rfl) (by kernel_rfl) (by kernel_rfl) (fun _ _ _ h => h) (Or.inl ⟨?_, ?_⟩) (by assumption) ?_
  rotate_left 2
  · simp only [List.getElem?_toArray, List.getElem?_cons_succ, List.getElem?_cons_zero]; rfl
  · rfl
  · intro w hSw; (try dsimp only at hSw); have hC := fun (b o : Nat) (h : b < W1.heap.size) => Below.cell hSw (p := ⟨b, o, none⟩) h; go_simp <;> with_reducible rfl
  (try simp only [Act.put, List.setIfInBounds_toArray, List.set_cons_zero, List.set_cons_succ])
  refine PX.wpAnyY_take (i := 23) (oi := ?_) (v := ?_) ?_ (by kernel_rfl) (by kernel_rfl) (by kernel_rfl) (by kernel_rfl) (by kernel_rfl) (fun _ _ _ h => h) (Or.inl ⟨?_, ?_⟩) (by assumption) ?_
  rotate_left 2
  · simp only [List.getElem?_toArray, List.getElem?_cons_succ, List.getElem?_cons_zero]; rfl
  · rfl
  · intro w hSw; (try dsimp only at hSw); go_simp <;> with_reducible rfl
  (try simp only [Act.put, List.setIfInBounds_toArray, List.set_cons_zero, List.set_cons_succ])
  refine PX.wpAnyY_take (i := 24) (oi := ?_) (v := ?_) ?_ (by kernel_rfl) (by kernel_rfl) (by kernel_rfl) (by kernel_rfl) (by kernel_rfl) (fun _ _ _ h => h) (Or.inl ⟨?_, ?_⟩) (by assumption) ?_
  rotate_left 2
  · simp only [List.getElem?_toArray, List.getElem?_cons_succ, List.getElem?_cons_zero]; rfl
  · rfl
  · intro w hSw; (try dsimp only at hSw); go_simp <;> with_reducible rfl
  (try simp only [Act.put, List.setIfInBounds_toArray, List.set_cons_zero, List.set_cons_succ])
  refine PX.wpAnyY_take (i := 25) (oi := ?_) (v := ?_) ?_ (by kernel_rfl) (by kernel_rfl) (by kernel_rfl) (by kernel_rfl) (by kernel_rfl) (fun _ _ _ h => h) (Or.inl ⟨?_, ?_⟩) (by assumption) ?_
  rotate_left 2
  · simp only [List.getElem?_toArray, List.getElem?_cons_succ, List.getElem?_cons_zero]; rfl
  · rfl
  · intro w hSw; (try dsimp only at hSw); go_simp <;> with_reducible rfl
  (try simp only [Act.put, List.setIfInBounds_toArray, List.set_cons_zero, List.set_cons_succ])
  refine PX.wpAnyY_take (i := 26) (oi := ?_) (v := ?_) ?_ (by kernel_rfl) (by kernel_rfl) (by kernel_rfl) (by kernel_rfl) (by kernel_rfl) (fun _ _ _ h => h) (Or.inl ⟨?_, ?_⟩) (by assumption) ?_
  rotate_left 2
  · simp only [List.getElem?_toArray, List.getElem?_cons_succ, List.getElem?_cons_zero]; rfl
  · rfl
  · intro w hSw; (try dsimp only at hSw); have hC := fun (b o : Nat) (h : b < W1.heap.size) => Below.cell hSw (p := ⟨b, o, none⟩) h; go_simp <;> with_reducible rfl
  (try simp only [Act.put, List.setIfInBounds_toArray, List.set_cons_zero, List.set_cons_succ])
  refine PX.wpAnyY_take (i := 27) (oi := ?_) (v := ?_) ?_ (by kernel_rfl) (by kernel_rfl) (by kernel_rfl) (by kernel_rfl) (by kernel_rfl) (fun _ _ _ h => h) (Or.inl ⟨?_, ?_⟩) (by assumption) ?_
  rotate_left 2
  · simp only [List.getElem?_toArray, List.getElem?_cons_succ, List.getElem?_cons_zero]; rfl
  · rfl
  · intro w hSw; (try dsimp only at hSw); go_simp <;> with_reducible rfl
  (try simp only [Act.put, List.setIfInBounds_toArray, List.set_cons_zero, List.set_cons_succ])
  refine PX.wpAnyY_take (i := 28) (oi := ?_) (v := ?_) ?_ (by kernel_rfl) (by kernel_rfl) (by kernel_rfl) (by kernel_rfl) (by kernel_rfl) (fun _ _ _ h => h) (Or.inl ⟨?_, ?_⟩) (by assumption) ?_
  rotate_left 2
  · simp only [List.getElem?_toArray, List.getElem?_cons_succ, List.getElem?_cons_zero]; rfl
  · rfl
  · intro w hSw; (try dsimp only at hSw); go_simp <;> with_reducible rfl
  (try simp only [Act.put, List.setIfInBounds_toArray, List.set_cons_zero, List.set_cons_succ])
  refine PX.wpAnyY_take (i := 29) (oi := ?_) (v := ?_) ?_ (by kernel_rfl) (by kernel_rfl) (by kernel_rfl) (by kernel_rfl) (by kernel_rfl) (fun _ _ _ h => h) (Or.inl ⟨?_, ?_⟩) (by assumption) ?_
  rotate_left 2
  · simp only [List.getElem?_toArray, List.getElem?_cons_succ, List.getElem?_cons_zero]; rfl
  · rfl
  · intro w hSw; (try dsimp only at hSw); go_simp <;> with_reducible rfl
  (try simp only [Act.put, List.setIfInBounds_toArray, List.set_cons_zero, List.set_cons_succ])
  refine PX.wpAnyY_take (i := 30) (oi := ?_) (v := ?_) ?_ (by kernel_rfl) (by kernel_rfl) (by kernel_rfl) (by kernel_rfl) (by kernel_rfl) (fun _ _ _ h => h) (Or.inl ⟨?_, ?_⟩) (by assumption) ?_
  rotate_left 2
  · simp only [List.getElem?_toArray, List.getElem?_cons_succ, List.getElem?_cons_zero]; rfl
  · rfl
  · intro w hSw; (try dsimp only at hSw); have hC := fun (b o : Nat) (h : b < W1.heap.size) => Below.cell hSw (p := ⟨b, o, none⟩) h; go_simp <;> with_reducible rfl
  (try simp only [Act.put, List.setIfInBounds_toArray, List.set_cons_zero, List.set_cons_succ])
  refine PX.wpAnyY_take (i := 31) (oi := ?_) (v := ?_) ?_ (by kernel_rfl) (by kernel_rfl) (by kernel_rfl) (by kernel_rfl) (by kernel_rfl) (fun _ _ _ h => h) (Or.inl ⟨?_, ?_⟩) (by assumption) ?_
  rotate_left 2
  · simp only [List.getElem?_toArray, List.getElem?_cons_succ, List.getElem?_cons_zero]; rfl
  · rfl
  · intro w hSw; (try dsimp only at hSw); go_simp <;> with_reducible rfl
  (try simp only [Act.put, List.setIfInBounds_toArray, List.set_cons_zero, List.set_cons_succ])
  refine PX.wpAnyY_take (i := 32) (oi := ?_) (v := ?_) ?_ (by kernel_rfl) (by kernel_rfl) (by kernel_rfl) (by kernel_rfl) (by kernel_rfl) (fun _ _ _ h => h) (Or.inl ⟨?_, ?_⟩) (by assumption) ?_
  rotate_left 2
  · simp only [List.getElem?_toArray, List.getElem?_cons_succ, List.getElem?_cons_zero]; rfl
  · rfl
  · intro w hSw; (try dsimp only at hSw); go_simp <;> with_reducible rfl
  (try simp only [Act.put, List.setIfInBounds_toArray, List.set_cons_zero, List.set_cons_succ])
  refine PX.wpAnyY_take (i := 33) (oi := ?_) (v := ?_) ?_ (by kernel_rfl) (by kernel_rfl) (by kernel_rfl) (by kernel_rfl) (by kernel_rfl) (fun _ _ _ h => h) (Or.inl ⟨?_, ?_⟩) (by assumption) ?_
  rotate_left 2
  · simp only [List.getElem?_toArray, List.getElem?_cons_succ, List.getElem?_cons_zero]; rfl
  · rfl
  · intro w hSw; (try dsimp only at hSw); go_simp <;> with_reducible rfl
  (try simp only [Act.put, List.setIfInBounds_toArray, List.set_cons_zero, List.set_cons_succ])
  refine PX.wpAnyY_take (i := 34) (oi := ?_) (v := ?_) ?_ (by kernel_rfl) (by kernel_rfl) (by kernel_rfl) (by kernel_rfl) (by kernel_rfl) (fun _ _ _ h => h) (Or.inl ⟨?_, ?_⟩) (by assumption) ?_
  rotate_left 2
  · simp only [List.getElem?_toArray, List.getElem?_cons_succ, List.getElem?_cons_zero]; rfl
  · rfl
  · intro w hSw; (try dsimp only at hSw); have hC := fun (b o : Nat) (h : b < W1.heap.size) => Below.cell hSw (p := ⟨b, o, none⟩) h; go_simp <;> with_reducible rfl
  (try simp only [Act.put, List.setIfInBounds_toArray, List.set_cons_zero, List.set_cons_succ])
  refine PX.wpAnyY_take (i := 35) (oi := ?_) (v := ?_) ?_ (by kernel_rfl) (by kernel_rfl) (by kernel_rfl) (by kernel_rfl) (by kernel_rfl) (fun _ _ _ h => h) (Or.inl ⟨?_, ?_⟩) (by assumption) ?_
  rotate_left 2
  · simp only [List.getElem?_toArray, List.getElem?_cons_succ, List.getElem?_cons_zero]; rfl
  · rfl
  · intro w hSw; (try dsimp only at hSw); go_simp <;> with_reducible rfl
  (try simp only [Act.put, List.setIfInBounds_toArray, List.set_cons_zero, List.set_cons_succ])
  refine PX.wpAnyY_two (i := 1) (j := 37) (o := ?_) (o' := ?_) (by kernel_rfl) ?_ ?_ (fun Kq hKq => ?_) (fun Kq hKq => ?_)
  rotate_left 2
  · simp only [List.getElem?_toArray, List.getElem?_cons_succ, List.getElem?_cons_zero]; rfl
  · simp only [List.getElem?_toArray, List.getElem?_cons_succ, List.getElem?_cons_zero]; rfl
  · go_simp
    refine (CN1.out _ hHeld).mono ?_
    rintro e u1 ⟨rfl, bq⟩
    have H1 := Lib.hid (thence hHeld bq (Nat.le_refl _))
    clear bq
    go_wp2_with fail
    refine hKq.out _ _ (H1.out) (fun hHeld => ?_)
    clear hKq Kq
    (try simp only [Act.put, List.setIfInBounds_toArray, List.set_cons_zero, List.set_cons_succ])
    refine PX.wpAnyY_two (i := 3) (j := 37) (o := ?_) (o' := ?_) (by kernel_rfl) ?_ ?_ (fun Kq hKq => ?_) (fun Kq hKq => ?_)
    rotate_left 2
    · simp only [List.getElem?_toArray, List.getElem?_cons_succ, List.getElem?_cons_zero]; rfl
    · simp only [List.getElem?_toArray, List.getElem?_cons_succ, List.getElem?_cons_zero]; rfl
    · go_simp
      refine (CN5.out _ hHeld).mono ?_
      rintro e u3 ⟨rfl, bq⟩
      have H3 := Lib.hid (thence hHeld bq (Nat.le_refl _))
      clear bq
      go_wp2_with fail
      refine hKq.out _ _ (H3.out) (fun hHeld => ?_)
      clear hKq Kq
      (try simp only [Act.put, List.setIfInBounds_toArray, List.set_cons_zero, List.set_cons_succ])
      refine PX.wpAnyY_take (i := 36) (oi := ?_) (v := ?_) ?_ (by kernel_rfl) (by kernel_rfl) (by kernel_rfl) (by kernel_rfl) (by kernel_rfl) (fun _ _ _ h => h) (Or.inl ⟨?_, ?_⟩) (by assumption) ?_
      rotate_left 2
      · simp only [List.getElem?_toArray, List.getElem?_cons_succ, List.getElem?_cons_zero]; rfl
      · rfl
      · intro w hSw; (try dsimp only at hSw); go_simp <;> with_reducible rfl
      (try simp only [Act.put, List.setIfInBounds_toArray, List.set_cons_zero, List.set_cons_succ])
      refine PX.wpAnyY_one (i := 37) (o := ?_) (by kernel_rfl) ?_ (fun Kq hKq => ?_)
      rotate_left
      · simp only [List.getElem?_toArray, List.getElem?_cons_succ, List.getElem?_cons_zero]; rfl
      go_simp
      have hl : Below u3.heap.size u3 (u3.alloc (.cells #[.int .u32 0, .int .u32 0, .int .i64 0, .int .i64 0, .int .i64 0, .int .i64 0, .int .i64 0, .int .i64 0, .int .i64 0, .bool false] 28)) := (Below.refl _ _).alloc (Nat.le_refl _) _
      have HA : Hid (Below W1.heap.size W1 (u3.alloc (.cells #[.int .u32 0, .int .u32 0, .int .i64 0, .int .i64 0, .int .i64 0, .int .i64 0, .int .i64 0, .int .i64 0, .int .i64 0, .bool false] 28))) := (thence hHeld hl (Nat.le_refl _))
      have BN : Hid (Bx (u3.alloc (.cells #[.int .u32 0, .int .u32 0, .int .i64 0, .int .i64 0, .int .i64 0, .int .i64 0, .int .i64 0, .int .i64 0, .int .i64 0, .bool false] 28)) u3.heap.size [.int .u32 0, .int .u32 0, .int .i64 0, .int .i64 0, .int .i64 0, .int .i64 0, .int .i64 0, .int .i64 0, .int .i64 0, .bool false]) := Bx.new u3 [.int .u32 0, .int .u32 0, .int .i64 0, .int .i64 0, .int .i64 0, .int .i64 0, .int .i64 0, .int .i64 0, .int .i64 0, .bool false] 28
      have hgb : Hid (W1.heap.size ≤ u3.heap.size) := hHeld.size
      clear hl
      generalize (u3.alloc (.cells #[.int .u32 0, .int .u32 0, .int .i64 0, .int .i64 0, .int .i64 0, .int .i64 0, .int .i64 0, .int .i64 0, .int .i64 0, .bool false] 28)) = wa at *
      obtain ⟨gb, hG⟩ : ∃ gb, u3.heap.size = gb := ⟨_, rfl⟩
      rw [hG] at BN ⊢
      replace hgb : Hid (W1.heap.size ≤ gb) := hG ▸ hgb.out
      clear hG
      obtain ⟨z0, z1, z2, z3, z4, z5, z6, z7, z8, z9⟩ := BN.out.ten
      obtain ⟨y0, y1, y2, y3, y4, y5, y6, y7, y8, y9⟩ := BN.out.froz10
      have ltN := BN.out.lt
      refine hKq.out _ _ (HA.out) (fun hHeld => ?_)
      clear hKq Kq
      (try simp only [Act.put, List.setIfInBounds_toArray, List.set_cons_zero, List.set_cons_succ])
      refine PX.wpAnyY_one (i := 38) (o := ?_) (by kernel_rfl) ?_ (fun Kq hKq => ?_)
      rotate_left
      · simp only [List.getElem?_toArray, List.getElem?_cons_succ, List.getElem?_cons_zero]; rfl
      go_simp
      have BM : Hid (Bx ((((((((((wa.setCell ⟨gb, 0, none⟩ (.int .u32 (ni : Int))).setCell ⟨gb, 1, none⟩ (.int .u32 (nv : Int))).setCell ⟨gb, 2, none⟩ (.int .i64 (n9 : Int))).setCell ⟨gb, 3, none⟩ (.int .i64 (n10 : Int))).setCell ⟨gb, 4, none⟩ (.int .i64 (n11 : Int))).setCell ⟨gb, 5, none⟩ (.int .i64 (n12 : Int))).setCell ⟨gb, 6, none⟩ (.int .i64 (n13 : Int))).setCell ⟨gb, 7, none⟩ (.int .i64 (n14 : Int))).setCell ⟨gb, 8, none⟩ (.int .i64 (n15 : Int))).setCell ⟨gb, 9, none⟩ (.bool op)) gb [.int .u32 (ni : Int), .int .u32 (nv : Int), .int .i64 (n9 : Int), .int .i64 (n10 : Int), .int .i64 (n11 : Int), .int .i64 (n12 : Int), .int .i64 (n13 : Int), .int .i64 (n14 : Int), .int .i64 (n15 : Int), .bool op]) := ((((((((((BN.out.set 0 (.int .u32 (ni : Int))).set 1 (.int .u32 (nv : Int))).set 2 (.int .i64 (n9 : Int))).set 3 (.int .i64 (n10 : Int))).set 4 (.int .i64 (n11 : Int))).set 5 (.int .i64 (n12 : Int))).set 6 (.int .i64 (n13 : Int))).set 7 (.int .i64 (n14 : Int))).set 8 (.int .i64 (n15 : Int))).set 9 (.bool op))
      have HM : Hid (Below W1.heap.size W1 ((((((((((wa.setCell ⟨gb, 0, none⟩ (.int .u32 (ni : Int))).setCell ⟨gb, 1, none⟩ (.int .u32 (nv : Int))).setCell ⟨gb, 2, none⟩ (.int .i64 (n9 : Int))).setCell ⟨gb, 3, none⟩ (.int .i64 (n10 : Int))).setCell ⟨gb, 4, none⟩ (.int .i64 (n11 : Int))).setCell ⟨gb, 5, none⟩ (.int .i64 (n12 : Int))).setCell ⟨gb, 6, none⟩ (.int .i64 (n13 : Int))).setCell ⟨gb, 7, none⟩ (.int .i64 (n14 : Int))).setCell ⟨gb, 8, none⟩ (.int .i64 (n15 : Int))).setCell ⟨gb, 9, none⟩ (.bool op))) := ((((((((((hHeld.setCell hgb.out (.int .u32 (ni : Int))).setCell hgb.out (.int .u32 (nv : Int))).setCell hgb.out (.int .i64 (n9 : Int))).setCell hgb.out (.int .i64 (n10 : Int))).setCell hgb.out (.int .i64 (n11 : Int))).setCell hgb.out (.int .i64 (n12 : Int))).setCell hgb.out (.int .i64 (n13 : Int))).setCell hgb.out (.int .i64 (n14 : Int))).setCell hgb.out (.int .i64 (n15 : Int))).setCell hgb.out (.bool op))
      clear BN z0 z1 z2 z3 z4 z5 z6 z7 z8 z9 y0 y1 y2 y3 y4 y5 y6 y7 y8 y9 ltN
      generalize ((((((((((wa.setCell ⟨gb, 0, none⟩ (.int .u32 (ni : Int))).setCell ⟨gb, 1, none⟩ (.int .u32 (nv : Int))).setCell ⟨gb, 2, none⟩ (.int .i64 (n9 : Int))).setCell ⟨gb, 3, none⟩ (.int .i64 (n10 : Int))).setCell ⟨gb, 4, none⟩ (.int .i64 (n11 : Int))).setCell ⟨gb, 5, none⟩ (.int .i64 (n12 : Int))).setCell ⟨gb, 6, none⟩ (.int .i64 (n13 : Int))).setCell ⟨gb, 7, none⟩ (.int .i64 (n14 : Int))).setCell ⟨gb, 8, none⟩ (.int .i64 (n15 : Int))).setCell ⟨gb, 9, none⟩ (.bool op)) = wm at *
      refine hKq.out _ _ (HM.out) (fun hHeld => ?_)
      clear hKq Kq
      (try simp only [Act.put, List.setIfInBounds_toArray, List.set_cons_zero, List.set_cons_succ])
      refine PX.wpAnyY_done (by kernel_rfl) ?_ _
      refine NoPanic.normal ?_
      clear hHeld
      have f14' : wm.cell? ⟨g, 14, none⟩ = some (.int .u8 (n14 : Int)) := (Below.cell HM.out (p := ⟨g, 14, none⟩) hgl).trans f14
      clear f9 f10 f11 f12 f13 f14 f15 f16
      obtain ⟨z0, z1, z2, z3, z4, z5, z6, z7, z8, z9⟩ := BM.out.ten
      obtain ⟨y0, y1, y2, y3, y4, y5, y6, y7, y8, y9⟩ := BM.out.froz10
      have ltN := BM.out.lt
      have ltG : g < wm.heap.size := Nat.lt_of_lt_of_le hgl HM.out.size
      by_cases h14 : n14 = 255
      · have e14 : (((n14 : Nat) : Int) == 255) = true := by simp [h14]
        rw [if_pos h14] at HP
        clear h14
        have BN : Hid (Bx (wm.setCell ⟨gb, 7, none⟩ (.int .i64 (-1))) gb [.int .u32 (ni : Int), .int .u32 (nv : Int), .int .i64 (n9 : Int), .int .i64 (n10 : Int), .int .i64 (n11 : Int), .int .i64 (n12 : Int), .int .i64 (n13 : Int), .int .i64 (-1), .int .i64 (n15 : Int), .bool op]) := BM.out.set 7 (.int .i64 (-1))
        have HN : Hid (Below W1.heap.size W1 (wm.setCell ⟨gb, 7, none⟩ (.int .i64 (-1)))) := HM.out.setCell hgb.out _
        go_wp2_with fail
        clear z0 z1 z2 z3 z4 z5 z6 z7 z8 z9 y0 y1 y2 y3 y4 y5 y6 y7 y8 y9 ltN f14' BM
        generalize (wm.setCell ⟨gb, 7, none⟩ (.int .i64 (-1))) = wn at *
        have BL := Lib.hid (BR.out.here HN.out)
        have RN := Lib.hid (R1.out.below HN.out)
        have hgn : Hid (Below w.heap.size w wn) := B0.out.trans ((thence B1.out HN.out (Nat.le_refl _)).mono B0.out.size)
        have CM := Lib.hid (refLMay_any ni nv (n9 : Int) (n10 : Int) (n11 : Int) (n12 : Int) (n13 : Int) (-1) (n15 : Int) op)
        have ltL := BL.out.lt
        have ltN := BN.out.lt
        obtain ⟨z0, z1, z2, z3, z4, z5, z6, z7, z8, z9⟩ := BN.out.ten
        cases hm : Lab.may ⟨ni, nv, (n9 : Int), (n10 : Int), (n11 : Int), (n12 : Int), (n13 : Int), (-1), (n15 : Int), op⟩ with
        | false =>
          rw [hm] at CM
          have hgd : LB.good m = false := by unfold LB.good; rw [HP.out, hm]; rfl
          have hx := HX.out
          rw [hgd, if_neg (by decide)] at hx
          injection hx with hx1 hx2
          subst hx1 hx2
          clear hm hgd HX
          refine wp_region_noPanic ?_
          refine PX.wp_region_y (fun w' => Below wn.heap.size wn w') [] (by kernel_rfl) (Below.refl _ _).drew (fun hHeld => ?_)
          refine PX.wpAnyY_take (i := 0) (oi := ?_) (v := ?_) ?_ (by kernel_rfl) (by kernel_rfl) (by kernel_rfl) (by kernel_rfl) (by kernel_rfl) (fun _ _ _ h => h) (Or.inl ⟨?_, ?_⟩) (by assumption) ?_
          rotate_left 2
          · simp only [List.getElem?_toArray, List.getElem?_cons_succ, List.getElem?_cons_zero]; rfl
          · rfl
          · intro w hSw; (try dsimp only at hSw); have hC := fun (b o : Nat) (h : b < wn.heap.size) => Below.cell hSw (p := ⟨b, o, none⟩) h; go_simp <;> with_reducible rfl
          (try simp only [Act.put, List.setIfInBounds_toArray, List.set_cons_zero, List.set_cons_succ])
          refine PX.wpAnyY_one (i := 1) (o := ?_) (by kernel_rfl) ?_ (fun Kq hKq => ?_)
          rotate_left
          · simp only [List.getElem?_toArray, List.getElem?_cons_succ, List.getElem?_cons_zero]; rfl
          go_simp
          (with_reducible refine (CM.out _).mono ?_)
          rintro e u1 ⟨rfl, bq⟩
          have H1 := Lib.hid (thence hHeld bq (Nat.le_refl _))
          clear bq
          go_wp2_with fail
          refine hKq.out _ _ (H1.out) (fun hHeld => ?_)
          clear hKq Kq
          (try simp only [Act.put, List.setIfInBounds_toArray, List.set_cons_zero, List.set_cons_succ])
          refine PX.wpAnyY_one (i := 2) (o := ?_) (by kernel_rfl) ?_ (fun Kq hKq => ?_)
          rotate_left
          · simp only [List.getElem?_toArray, List.getElem?_cons_succ, List.getElem?_cons_zero]; rfl
          go_simp
          refine hKq.out _ _ (hHeld) (fun hHeld => ?_)
          clear hKq Kq
          (try simp only [Act.put, List.setIfInBounds_toArray, List.set_cons_zero, List.set_cons_succ])
          refine PX.wpAnyY_one (i := 3) (o := ?_) (by kernel_rfl) ?_ (fun Kq hKq => ?_)
          rotate_left
          · simp only [List.getElem?_toArray, List.getElem?_cons_succ, List.getElem?_cons_zero]; rfl
          go_simp
          refine hKq.out _ _ (hHeld) (fun hHeld => ?_)
          clear hKq Kq
          (try simp only [Act.put, List.setIfInBounds_toArray, List.set_cons_zero, List.set_cons_succ])
          refine PX.wpAnyY_take (i := 4) (oi := ?_) (v := undef) ?_ (by kernel_rfl) (by kernel_rfl) (by kernel_rfl) (by kernel_rfl) (by kernel_rfl) (fun _ _ _ h => h) (Or.inr ⟨?_, rfl⟩) (by assumption) ?_
          rotate_left
          · simp only [List.getElem?_toArray, List.getElem?_cons_succ, List.getElem?_cons_zero]; rfl
          · rfl
          (try simp only [Act.put, List.setIfInBounds_toArray, List.set_cons_zero, List.set_cons_succ])
          refine PX.wpAnyY_take (i := 5) (oi := ?_) (v := undef) ?_ (by kernel_rfl) (by kernel_rfl) (by kernel_rfl) (by kernel_rfl) (by kernel_rfl) (fun _ _ _ h => h) (Or.inr ⟨?_, rfl⟩) (by assumption) ?_
          rotate_left
          · simp only [List.getElem?_toArray, List.getElem?_cons_succ, List.getElem?_cons_zero]; rfl
          · rfl
          (try simp only [Act.put, List.setIfInBounds_toArray, List.set_cons_zero, List.set_cons_succ])
          refine PX.wpAnyY_take (i := 6) (oi := ?_) (v := undef) ?_ (by kernel_rfl) (by kernel_rfl) (by kernel_rfl) (by kernel_rfl) (by kernel_rfl) (fun _ _ _ h => h) (Or.inr ⟨?_, rfl⟩) (by assumption) ?_
          rotate_left
          · simp only [List.getElem?_toArray, List.getElem?_cons_succ, List.getElem?_cons_zero]; rfl
          · rfl
          (try simp only [Act.put, List.setIfInBounds_toArray, List.set_cons_zero, List.set_cons_succ])
          refine PX.wpAnyY_one (i := 7) (o := ?_) (by kernel_rfl) ?_ (fun Kq hKq => ?_)
          rotate_left
          · simp only [List.getElem?_toArray, List.getElem?_cons_succ, List.getElem?_cons_zero]; rfl
          go_simp
          refine hKq.out _ _ (hHeld) (fun hHeld => ?_)
          clear hKq Kq
          (try simp only [Act.put, List.setIfInBounds_toArray, List.set_cons_zero, List.set_cons_succ])
          refine PX.wpAnyY_one (i := 8) (o := ?_) (by kernel_rfl) ?_ (fun Kq hKq => ?_)
          rotate_left
          · simp only [List.getElem?_toArray, List.getElem?_cons_succ, List.getElem?_cons_zero]; rfl
          go_simp
          refine hKq.out _ _ (hHeld) (fun hHeld => ?_)
          clear hKq Kq
          (try simp only [Act.put, List.setIfInBounds_toArray, List.set_cons_zero, List.set_cons_succ])
          refine PX.wpAnyY_one (i := 9) (o := ?_) (by kernel_rfl) ?_ (fun Kq hKq => ?_)
          rotate_left
          · simp only [List.getElem?_toArray, List.getElem?_cons_succ, List.getElem?_cons_zero]; rfl
          go_simp
          refine hKq.out _ _ (hHeld) (fun hHeld => ?_)
          clear hKq Kq
          (try simp only [Act.put, List.setIfInBounds_toArray, List.set_cons_zero, List.set_cons_succ])
          refine PX.wpAnyY_one (i := 10) (o := ?_) (by kernel_rfl) ?_ (fun Kq hKq => ?_)
          rotate_left
          · simp only [List.getElem?_toArray, List.getElem?_cons_succ, List.getElem?_cons_zero]; rfl
          go_simp
          refine hKq.out _ _ (hHeld) (fun hHeld => ?_)
          clear hKq Kq
          (try simp only [Act.put, List.setIfInBounds_toArray, List.set_cons_zero, List.set_cons_succ])
          refine PX.wpAnyY_done (by kernel_rfl) ?_ _
          refine NoPanic.normal ?_
          replace BL := Lib.hid (BL.out.here H1.out)
          replace BN := Lib.hid (BN.out.here H1.out)
          have HU := Lib.hid (hgn.out.trans (H1.out.mono hgn.out.size))
          clear ltL ltN
          have BF : Hid (Bx ((((((((((u1.setCell ⟨w.heap.size, 0, none⟩ (.int .u32 0)).setCell ⟨w.heap.size, 1, none⟩ (.int .u32 0)).setCell ⟨w.heap.size, 2, none⟩ (.int .i64 0)).setCell ⟨w.heap.size, 3, none⟩ (.int .i64 0)).setCell ⟨w.heap.size, 4, none⟩ (.int .i64 0)).setCell ⟨w.heap.size, 5, none⟩ (.int .i64 0)).setCell ⟨w.heap.size, 6, none⟩ (.int .i64 0)).setCell ⟨w.heap.size, 7, none⟩ (.int .i64 0)).setCell ⟨w.heap.size, 8, none⟩ (.int .i64 0)).setCell ⟨w.heap.size, 9, none⟩ (.bool false)) w.heap.size [.int .u32 0, .int .u32 0, .int .i64 0, .int .i64 0, .int .i64 0, .int .i64 0, .int .i64 0, .int .i64 0, .int .i64 0, .bool false]) := ((((((((((BL.out.set 0 (.int .u32 0)).set 1 (.int .u32 0)).set 2 (.int .i64 0)).set 3 (.int .i64 0)).set 4 (.int .i64 0)).set 5 (.int .i64 0)).set 6 (.int .i64 0)).set 7 (.int .i64 0)).set 8 (.int .i64 0)).set 9 (.bool false))
          have HF : Hid (Below w.heap.size w ((((((((((u1.setCell ⟨w.heap.size, 0, none⟩ (.int .u32 0)).setCell ⟨w.heap.size, 1, none⟩ (.int .u32 0)).setCell ⟨w.heap.size, 2, none⟩ (.int .i64 0)).setCell ⟨w.heap.size, 3, none⟩ (.int .i64 0)).setCell ⟨w.heap.size, 4, none⟩ (.int .i64 0)).setCell ⟨w.heap.size, 5, none⟩ (.int .i64 0)).setCell ⟨w.heap.size, 6, none⟩ (.int .i64 0)).setCell ⟨w.heap.size, 7, none⟩ (.int .i64 0)).setCell ⟨w.heap.size, 8, none⟩ (.int .i64 0)).setCell ⟨w.heap.size, 9, none⟩ (.bool false))) := ((((((((((HU.out.setCell (Nat.le_refl _) (.int .u32 0)).setCell (Nat.le_refl _) (.int .u32 0)).setCell (Nat.le_refl _) (.int .i64 0)).setCell (Nat.le_refl _) (.int .i64 0)).setCell (Nat.le_refl _) (.int .i64 0)).setCell (Nat.le_refl _) (.int .i64 0)).setCell (Nat.le_refl _) (.int .i64 0)).setCell (Nat.le_refl _) (.int .i64 0)).setCell (Nat.le_refl _) (.int .i64 0)).setCell (Nat.le_refl _) (.bool false))
          clear hHeld
          obtain ⟨z0, z1, z2, z3, z4, z5, z6, z7, z8, z9⟩ := BN.out.ten
          obtain ⟨r0, r1, r2, r3, r4, r5, r6, r7, r8, r9⟩ := BL.out.ten
          obtain ⟨s0, s1, s2, s3, s4, s5, s6, s7, s8, s9⟩ := BL.out.froz10
          have ltL := BL.out.lt
          have ltN := BN.out.lt
          go_wp2_with fail
          clear z0 z1 z2 z3 z4 z5 z6 z7 z8 z9 r0 r1 r2 r3 r4 r5 r6 r7 r8 r9 s0 s1 s2 s3 s4 s5 s6 s7 s8 s9
          obtain ⟨q0, q1, q2, q3, q4, q5, q6, q7, q8, q9⟩ := BF.out.ten
          exact bodyPost_ret (v := .tuple #[labV Lab.zero, .int .i64 90]) (by simp [results, Try.results17, go_sem, q0, q1, q2, q3, q4, q5, q6, q7, q8, q9]; rfl) rfl ⟨rfl, HF.out⟩
        | true =>
          have hmay := LB.may_iff.1 hm
          have CB := Lib.hid (fun w1 => refLBlock_any ni nv (n9 : Int) (n10 : Int) (n11 : Int) (n12 : Int) (n13 : Int) (-1) (n15 : Int) op w1 HI.out hmay)
          have HBB : Hid (Bytes (Lab.block ⟨ni, nv, (n9 : Int), (n10 : Int), (n11 : Int), (n12 : Int), (n13 : Int), (-1), (n15 : Int), op⟩)) := LB.block_bytes hmay HI.out
          have HBL : Hid ((Lab.block ⟨ni, nv, (n9 : Int), (n10 : Int), (n11 : Int), (n12 : Int), (n13 : Int), (-1), (n15 : Int), op⟩).length = 128) := LB.block_length _
          rw [hm] at CM
          have hgd : LB.good m = decide (Lab.block ⟨ni, nv, (n9 : Int), (n10 : Int), (n11 : Int), (n12 : Int), (n13 : Int), (-1), (n15 : Int), op⟩ = m) := by unfold LB.good; rw [HP.out, hm]; rfl
          have hx := HX.out
          rw [hgd, HP.out] at hx
          clear hm hgd hmay HX
          generalize hBK : Lab.block ⟨ni, nv, (n9 : Int), (n10 : Int), (n11 : Int), (n12 : Int), (n13 : Int), (-1), (n15 : Int), op⟩ = K at *
          clear hBK
          by_cases hk : K = m
          · have hn : ((str K).toList == (str m).toList) = true := by rw [str_two HBB.out HB.out]; exact decide_eq_true hk
            rw [decide_eq_true hk, if_pos rfl] at hx
            injection hx with hx1 hx2
            subst hx1 hx2
            clear hk
            refine wp_region_noPanic ?_
            refine PX.wp_region_y (fun w' => Below wn.heap.size wn w') [] (by kernel_rfl) (Below.refl _ _).drew (fun hHeld => ?_)
            refine PX.wpAnyY_take (i := 0) (oi := ?_) (v := ?_) ?_ (by kernel_rfl) (by kernel_rfl) (by kernel_rfl) (by kernel_rfl) (by kernel_rfl) (fun _ _ _ h => h) (Or.inl ⟨?_, ?_⟩) (by assumption) ?_
            rotate_left 2
            · simp only [List.getElem?_toArray, List.getElem?_cons_succ, List.getElem?_cons_zero]; rfl
            · rfl
            · intro w hSw; (try dsimp only at hSw); have hC := fun (b o : Nat) (h : b < wn.heap.size) => Below.cell hSw (p := ⟨b, o, none⟩) h; go_simp <;> with_reducible rfl
            (try simp only [Act.put, List.setIfInBounds_toArray, List.set_cons_zero, List.set_cons_succ])
            refine PX.wpAnyY_one (i := 1) (o := ?_) (by kernel_rfl) ?_ (fun Kq hKq => ?_)
            rotate_left
            · simp only [List.getElem?_toArray, List.getElem?_cons_succ, List.getElem?_cons_zero]; rfl
            go_simp
            (with_reducible refine (CM.out _).mono ?_)
            rintro e u1 ⟨rfl, bq⟩
            have H1 := Lib.hid (thence hHeld bq (Nat.le_refl _))
            clear bq
            go_wp2_with fail
            refine hKq.out _ _ (H1.out) (fun hHeld => ?_)
            clear hKq Kq
            (try simp only [Act.put, List.setIfInBounds_toArray, List.set_cons_zero, List.set_cons_succ])
            refine PX.wpAnyY_one (i := 2) (o := ?_) (by kernel_rfl) ?_ (fun Kq hKq => ?_)
            rotate_left
            · simp only [List.getElem?_toArray, List.getElem?_cons_succ, List.getElem?_cons_zero]; rfl
            go_simp
            refine hKq.out _ _ (hHeld) (fun hHeld => ?_)
            clear hKq Kq
            (try simp only [Act.put, List.setIfInBounds_toArray, List.set_cons_zero, List.set_cons_succ])
            refine PX.wpAnyY_one (i := 3) (o := ?_) (by kernel_rfl) ?_ (fun Kq hKq => ?_)
            rotate_left
            · simp only [List.getElem?_toArray, List.getElem?_cons_succ, List.getElem?_cons_zero]; rfl
            go_simp
            refine hKq.out _ _ (hHeld) (fun hHeld => ?_)
            clear hKq Kq
            (try simp only [Act.put, List.setIfInBounds_toArray, List.set_cons_zero, List.set_cons_succ])
            refine PX.wpAnyY_take (i := 4) (oi := ?_) (v := ?_) ?_ (by kernel_rfl) (by kernel_rfl) (by kernel_rfl) (by kernel_rfl) (by kernel_rfl) (fun _ _ _ h => h) (Or.inl ⟨?_, ?_⟩) (by assumption) ?_
            rotate_left 2
            · simp only [List.getElem?_toArray, List.getElem?_cons_succ, List.getElem?_cons_zero]; rfl
            · rfl
            · intro w hSw; (try dsimp only at hSw); have hC := fun (b o : Nat) (h : b < wn.heap.size) => Below.cell hSw (p := ⟨b, o, none⟩) h; go_simp <;> with_reducible rfl
            (try simp only [Act.put, List.setIfInBounds_toArray, List.set_cons_zero, List.set_cons_succ])
            refine PX.wpAnyY_take (i := 7) (oi := ?_) (v := ?_) ?_ (by kernel_rfl) (by kernel_rfl) (by kernel_rfl) (by kernel_rfl) (by kernel_rfl) (fun _ _ _ h => h) (Or.inl ⟨?_, ?_⟩) (by assumption) ?_
            rotate_left 2
            · simp only [List.getElem?_toArray, List.getElem?_cons_succ, List.getElem?_cons_zero]; rfl
            · rfl
            · intro w hSw; (try dsimp only at hSw); go_simp <;> with_reducible rfl
            (try simp only [Act.put, List.setIfInBounds_toArray, List.set_cons_zero, List.set_cons_succ])
            refine PX.wpAnyY_take (i := 8) (oi := ?_) (v := ?_) ?_ (by kernel_rfl) (by kernel_rfl) (by kernel_rfl) (by kernel_rfl) (by kernel_rfl) (fun _ _ _ h => h) (Or.inl ⟨?_, ?_⟩) (by assumption) ?_
            rotate_left 2
            · simp only [List.getElem?_toArray, List.getElem?_cons_succ, List.getElem?_cons_zero]; rfl
            · rfl
            · intro w hSw; (try dsimp only at hSw); have T8 := text_is w _ _ _ _ (RN.out.below (hSw.mono (HN.out.size))); go_simp <;> with_reducible rfl
            (try simp only [Act.put, List.setIfInBounds_toArray, List.set_cons_zero, List.set_cons_succ])
            refine PX.wpAnyY_one (i := 5) (o := ?_) (by kernel_rfl) ?_ (fun Kq hKq => ?_)
            rotate_left
            · simp only [List.getElem?_toArray, List.getElem?_cons_succ, List.getElem?_cons_zero]; rfl
            go_simp
            (with_reducible refine (CB.out _).mono ?_)
            rintro e u5 ⟨g5, rfl, hg5, hb5, bq⟩
            have H5 := Lib.hid (thence hHeld bq (Nat.le_refl _))
            have T5 := text_is u5 _ _ _ _ (hb5.rd HBL.out HBB.out)
            clear bq
            go_wp2_with fail
            refine hKq.out _ _ (H5.out) (fun hHeld => ?_)
            clear hKq Kq
            (try simp only [Act.put, List.setIfInBounds_toArray, List.set_cons_zero, List.set_cons_succ])
            refine PX.wpAnyY_one (i := 6) (o := ?_) (by kernel_rfl) ?_ (fun Kq hKq => ?_)
            rotate_left
            · simp only [List.getElem?_toArray, List.getElem?_cons_succ, List.getElem?_cons_zero]; rfl
            go_simp
            refine hKq.out _ _ (hHeld) (fun hHeld => ?_)
            clear hKq Kq
            (try simp only [Act.put, List.setIfInBounds_toArray, List.set_cons_zero, List.set_cons_succ])
            refine PX.wpAnyY_one (i := 9) (o := ?_) (by kernel_rfl) ?_ (fun Kq hKq => ?_)
            rotate_left
            · simp only [List.getElem?_toArray, List.getElem?_cons_succ, List.getElem?_cons_zero]; rfl
            go_simp
            refine hKq.out _ _ (hHeld) (fun hHeld => ?_)
            clear hKq Kq
            (try simp only [Act.put, List.setIfInBounds_toArray, List.set_cons_zero, List.set_cons_succ])
            refine PX.wpAnyY_one (i := 10) (o := ?_) (by kernel_rfl) ?_ (fun Kq hKq => ?_)
            rotate_left
            · simp only [List.getElem?_toArray, List.getElem?_cons_succ, List.getElem?_cons_zero]; rfl
            go_simp
            refine hKq.out _ _ (hHeld) (fun hHeld => ?_)
            clear hKq Kq
            (try simp only [Act.put, List.setIfInBounds_toArray, List.set_cons_zero, List.set_cons_succ])
            refine PX.wpAnyY_done (by kernel_rfl) ?_ _
            refine NoPanic.normal ?_
            replace BL := Lib.hid (BL.out.here H5.out)
            replace BN := Lib.hid (BN.out.here H5.out)
            have HU := Lib.hid (hgn.out.trans (H5.out.mono hgn.out.size))
            clear ltL ltN
            have BF : Hid (Bx ((((((((((u5.setCell ⟨w.heap.size, 0, none⟩ (.int .u32 (ni : Int))).setCell ⟨w.heap.size, 1, none⟩ (.int .u32 (nv : Int))).setCell ⟨w.heap.size, 2, none⟩ (.int .i64 (n9 : Int))).setCell ⟨w.heap.size, 3, none⟩ (.int .i64 (n10 : Int))).setCell ⟨w.heap.size, 4, none⟩ (.int .i64 (n11 : Int))).setCell ⟨w.heap.size, 5, none⟩ (.int .i64 (n12 : Int))).setCell ⟨w.heap.size, 6, none⟩ (.int .i64 (n13 : Int))).setCell ⟨w.heap.size, 7, none⟩ (.int .i64 (-1))).setCell ⟨w.heap.size, 8, none⟩ (.int .i64 (n15 : Int))).setCell ⟨w.heap.size, 9, none⟩ (.bool op)) w.heap.size [.int .u32 (ni : Int), .int .u32 (nv : Int), .int .i64 (n9 : Int), .int .i64 (n10 : Int), .int .i64 (n11 : Int), .int .i64 (n12 : Int), .int .i64 (n13 : Int), .int .i64 (-1), .int .i64 (n15 : Int), .bool op]) := ((((((((((BL.out.set 0 (.int .u32 (ni : Int))).set 1 (.int .u32 (nv : Int))).set 2 (.int .i64 (n9 : Int))).set 3 (.int .i64 (n10 : Int))).set 4 (.int .i64 (n11 : Int))).set 5 (.int .i64 (n12 : Int))).set 6 (.int .i64 (n13 : Int))).set 7 (.int .i64 (-1))).set 8 (.int .i64 (n15 : Int))).set 9 (.bool op))
            have HF : Hid (Below w.heap.size w ((((((((((u5.setCell ⟨w.heap.size, 0, none⟩ (.int .u32 (ni : Int))).setCell ⟨w.heap.size, 1, none⟩ (.int .u32 (nv : Int))).setCell ⟨w.heap.size, 2, none⟩ (.int .i64 (n9 : Int))).setCell ⟨w.heap.size, 3, none⟩ (.int .i64 (n10 : Int))).setCell ⟨w.heap.size, 4, none⟩ (.int .i64 (n11 : Int))).setCell ⟨w.heap.size, 5, none⟩ (.int .i64 (n12 : Int))).setCell ⟨w.heap.size, 6, none⟩ (.int .i64 (n13 : Int))).setCell ⟨w.heap.size, 7, none⟩ (.int .i64 (-1))).setCell ⟨w.heap.size, 8, none⟩ (.int .i64 (n15 : Int))).setCell ⟨w.heap.size, 9, none⟩ (.bool op))) := ((((((((((HU.out.setCell (Nat.le_refl _) (.int .u32 (ni : Int))).setCell (Nat.le_refl _) (.int .u32 (nv : Int))).setCell (Nat.le_refl _) (.int .i64 (n9 : Int))).setCell (Nat.le_refl _) (.int .i64 (n10 : Int))).setCell (Nat.le_refl _) (.int .i64 (n11 : Int))).setCell (Nat.le_refl _) (.int .i64 (n12 : Int))).setCell (Nat.le_refl _) (.int .i64 (n13 : Int))).setCell (Nat.le_refl _) (.int .i64 (-1))).setCell (Nat.le_refl _) (.int .i64 (n15 : Int))).setCell (Nat.le_refl _) (.bool op))
            clear hHeld
            obtain ⟨z0, z1, z2, z3, z4, z5, z6, z7, z8, z9⟩ := BN.out.ten
            obtain ⟨r0, r1, r2, r3, r4, r5, r6, r7, r8, r9⟩ := BL.out.ten
            obtain ⟨s0, s1, s2, s3, s4, s5, s6, s7, s8, s9⟩ := BL.out.froz10
            have ltL := BL.out.lt
            have ltN := BN.out.lt
            go_wp2_with fail
            clear z0 z1 z2 z3 z4 z5 z6 z7 z8 z9 r0 r1 r2 r3 r4 r5 r6 r7 r8 r9 s0 s1 s2 s3 s4 s5 s6 s7 s8 s9
            obtain ⟨q0, q1, q2, q3, q4, q5, q6, q7, q8, q9⟩ := BF.out.ten
            exact bodyPost_ret (v := .tuple #[labV ⟨ni, nv, (n9 : Int), (n10 : Int), (n11 : Int), (n12 : Int), (n13 : Int), (-1), (n15 : Int), op⟩, .int .i64 0]) (by simp [results, Try.results17, go_sem, q0, q1, q2, q3, q4, q5, q6, q7, q8, q9]; rfl) rfl ⟨rfl, HF.out⟩
          · have hn : ((str K).toList == (str m).toList) = false := by rw [str_two HBB.out HB.out]; exact decide_eq_false hk
            rw [decide_eq_false hk, if_neg (by decide)] at hx
            injection hx with hx1 hx2
            subst hx1 hx2
            clear hk
            refine wp_region_noPanic ?_
            refine PX.wp_region_y (fun w' => Below wn.heap.size wn w') [] (by kernel_rfl) (Below.refl _ _).drew (fun hHeld => ?_)
            refine PX.wpAnyY_take (i := 0) (oi := ?_) (v := ?_) ?_ (by kernel_rfl) (by kernel_rfl) (by kernel_rfl) (by kernel_rfl) (by kernel_rfl) (fun _ _ _ h => h) (Or.inl ⟨?_, ?_⟩) (by assumption) ?_
            rotate_left 2
            · simp only [List.getElem?_toArray, List.getElem?_cons_succ, List.getElem?_cons_zero]; rfl
            · rfl
            · intro w hSw; (try dsimp only at hSw); have hC := fun (b o : Nat) (h : b < wn.heap.size) => Below.cell hSw (p := ⟨b, o, none⟩) h; go_simp <;> with_reducible rfl
            (try simp only [Act.put, List.setIfInBounds_toArray, List.set_cons_zero, List.set_cons_succ])
            refine PX.wpAnyY_one (i := 1) (o := ?_) (by kernel_rfl) ?_ (fun Kq hKq => ?_)
            rotate_left
            · simp only [List.getElem?_toArray, List.getElem?_cons_succ, List.getElem?_cons_zero]; rfl
            go_simp
            (with_reducible refine (CM.out _).mono ?_)
            rintro e u1 ⟨rfl, bq⟩
            have H1 := Lib.hid (thence hHeld bq (Nat.le_refl _))
            clear bq
            go_wp2_with fail
            refine hKq.out _ _ (H1.out) (fun hHeld => ?_)
            clear hKq Kq
            (try simp only [Act.put, List.setIfInBounds_toArray, List.set_cons_zero, List.set_cons_succ])
            refine PX.wpAnyY_one (i := 2) (o := ?_) (by kernel_rfl) ?_ (fun Kq hKq => ?_)
            rotate_left
            · simp only [List.getElem?_toArray, List.getElem?_cons_succ, List.getElem?_cons_zero]; rfl
            go_simp
            refine hKq.out _ _ (hHeld) (fun hHeld => ?_)
            clear hKq Kq
            (try simp only [Act.put, List.setIfInBounds_toArray, List.set_cons_zero, List.set_cons_succ])
            refine PX.wpAnyY_one (i := 3) (o := ?_) (by kernel_rfl) ?_ (fun Kq hKq => ?_)
            rotate_left
            · simp only [List.getElem?_toArray, List.getElem?_cons_succ, List.getElem?_cons_zero]; rfl
            go_simp
            refine hKq.out _ _ (hHeld) (fun hHeld => ?_)
            clear hKq Kq
            (try simp only [Act.put, List.setIfInBounds_toArray, List.set_cons_zero, List.set_cons_succ])
            refine PX.wpAnyY_take (i := 4) (oi := ?_) (v := ?_) ?_ (by kernel_rfl) (by kernel_rfl) (by kernel_rfl) (by kernel_rfl) (by kernel_rfl) (fun _ _ _ h => h) (Or.inl ⟨?_, ?_⟩) (by assumption) ?_
            rotate_left 2
            · simp only [List.getElem?_toArray, List.getElem?_cons_succ, List.getElem?_cons_zero]; rfl
            · rfl
            · intro w hSw; (try dsimp only at hSw); have hC := fun (b o : Nat) (h : b < wn.heap.size) => Below.cell hSw (p := ⟨b, o, none⟩) h; go_simp <;> with_reducible rfl
            (try simp only [Act.put, List.setIfInBounds_toArray, List.set_cons_zero, List.set_cons_succ])
            refine PX.wpAnyY_take (i := 7) (oi := ?_) (v := ?_) ?_ (by kernel_rfl) (by kernel_rfl) (by kernel_rfl) (by kernel_rfl) (by kernel_rfl) (fun _ _ _ h => h) (Or.inl ⟨?_, ?_⟩) (by assumption) ?_
            rotate_left 2
            · simp only [List.getElem?_toArray, List.getElem?_cons_succ, List.getElem?_cons_zero]; rfl
            · rfl
            · intro w hSw; (try dsimp only at hSw); go_simp <;> with_reducible rfl
            (try simp only [Act.put, List.setIfInBounds_toArray, List.set_cons_zero, List.set_cons_succ])
            refine PX.wpAnyY_take (i := 8) (oi := ?_) (v := ?_) ?_ (by kernel_rfl) (by kernel_rfl) (by kernel_rfl) (by kernel_rfl) (by kernel_rfl) (fun _ _ _ h => h) (Or.inl ⟨?_, ?_⟩) (by assumption) ?_
            rotate_left 2
            · simp only [List.getElem?_toArray, List.getElem?_cons_succ, List.getElem?_cons_zero]; rfl
            · rfl
            · intro w hSw; (try dsimp only at hSw); have T8 := text_is w _ _ _ _ (RN.out.below (hSw.mono (HN.out.size))); go_simp <;> with_reducible rfl
            (try simp only [Act.put, List.setIfInBounds_toArray, List.set_cons_zero, List.set_cons_succ])
            refine PX.wpAnyY_one (i := 5) (o := ?_) (by kernel_rfl) ?_ (fun Kq hKq => ?_)
            rotate_left
            · simp only [List.getElem?_toArray, List.getElem?_cons_succ, List.getElem?_cons_zero]; rfl
            go_simp
            (with_reducible refine (CB.out _).mono ?_)
            rintro e u5 ⟨g5, rfl, hg5, hb5, bq⟩
            have H5 := Lib.hid (thence hHeld bq (Nat.le_refl _))
            have T5 := text_is u5 _ _ _ _ (hb5.rd HBL.out HBB.out)
            clear bq
            go_wp2_with fail
            refine hKq.out _ _ (H5.out) (fun hHeld => ?_)
            clear hKq Kq
            (try simp only [Act.put, List.setIfInBounds_toArray, List.set_cons_zero, List.set_cons_succ])
            refine PX.wpAnyY_one (i := 6) (o := ?_) (by kernel_rfl) ?_ (fun Kq hKq => ?_)
            rotate_left
            · simp only [List.getElem?_toArray, List.getElem?_cons_succ, List.getElem?_cons_zero]; rfl
            go_simp
            refine hKq.out _ _ (hHeld) (fun hHeld => ?_)
            clear hKq Kq
            (try simp only [Act.put, List.setIfInBounds_toArray, List.set_cons_zero, List.set_cons_succ])
            refine PX.wpAnyY_one (i := 9) (o := ?_) (by kernel_rfl) ?_ (fun Kq hKq => ?_)
            rotate_left
            · simp only [List.getElem?_toArray, List.getElem?_cons_succ, List.getElem?_cons_zero]; rfl
            go_simp
            refine hKq.out _ _ (hHeld) (fun hHeld => ?_)
            clear hKq Kq
            (try simp only [Act.put, List.setIfInBounds_toArray, List.set_cons_zero, List.set_cons_succ])
            refine PX.wpAnyY_one (i := 10) (o := ?_) (by kernel_rfl) ?_ (fun Kq hKq => ?_)
            rotate_left
            · simp only [List.getElem?_toArray, List.getElem?_cons_succ, List.getElem?_cons_zero]; rfl
            go_simp
            refine hKq.out _ _ (hHeld) (fun hHeld => ?_)
            clear hKq Kq
            (try simp only [Act.put, List.setIfInBounds_toArray, List.set_cons_zero, List.set_cons_succ])
            refine PX.wpAnyY_done (by kernel_rfl) ?_ _
            refine NoPanic.normal ?_
            replace BL := Lib.hid (BL.out.here H5.out)
            replace BN := Lib.hid (BN.out.here H5.out)
            have HU := Lib.hid (hgn.out.trans (H5.out.mono hgn.out.size))
            clear ltL ltN
            have BF : Hid (Bx ((((((((((u5.setCell ⟨w.heap.size, 0, none⟩ (.int .u32 0)).setCell ⟨w.heap.size, 1, none⟩ (.int .u32 0)).setCell ⟨w.heap.size, 2, none⟩ (.int .i64 0)).setCell ⟨w.heap.size, 3, none⟩ (.int .i64 0)).setCell ⟨w.heap.size, 4, none⟩ (.int .i64 0)).setCell ⟨w.heap.size, 5, none⟩ (.int .i64 0)).setCell ⟨w.heap.size, 6, none⟩ (.int .i64 0)).setCell ⟨w.heap.size, 7, none⟩ (.int .i64 0)).setCell ⟨w.heap.size, 8, none⟩ (.int .i64 0)).setCell ⟨w.heap.size, 9, none⟩ (.bool false)) w.heap.size [.int .u32 0, .int .u32 0, .int .i64 0, .int .i64 0, .int .i64 0, .int .i64 0, .int .i64 0, .int .i64 0, .int .i64 0, .bool false]) := ((((((((((BL.out.set 0 (.int .u32 0)).set 1 (.int .u32 0)).set 2 (.int .i64 0)).set 3 (.int .i64 0)).set 4 (.int .i64 0)).set 5 (.int .i64 0)).set 6 (.int .i64 0)).set 7 (.int .i64 0)).set 8 (.int .i64 0)).set 9 (.bool false))
            have HF : Hid (Below w.heap.size w ((((((((((u5.setCell ⟨w.heap.size, 0, none⟩ (.int .u32 0)).setCell ⟨w.heap.size, 1, none⟩ (.int .u32 0)).setCell ⟨w.heap.size, 2, none⟩ (.int .i64 0)).setCell ⟨w.heap.size, 3, none⟩ (.int .i64 0)).setCell ⟨w.heap.size, 4, none⟩ (.int .i64 0)).setCell ⟨w.heap.size, 5, none⟩ (.int .i64 0)).setCell ⟨w.heap.size, 6, none⟩ (.int .i64 0)).setCell ⟨w.heap.size, 7, none⟩ (.int .i64 0)).setCell ⟨w.heap.size, 8, none⟩ (.int .i64 0)).setCell ⟨w.heap.size, 9, none⟩ (.bool false))) := ((((((((((HU.out.setCell (Nat.le_refl _) (.int .u32 0)).setCell (Nat.le_refl _) (.int .u32 0)).setCell (Nat.le_refl _) (.int .i64 0)).setCell (Nat.le_refl _) (.int .i64 0)).setCell (Nat.le_refl _) (.int .i64 0)).setCell (Nat.le_refl _) (.int .i64 0)).setCell (Nat.le_refl _) (.int .i64 0)).setCell (Nat.le_refl _) (.int .i64 0)).setCell (Nat.le_refl _) (.int .i64 0)).setCell (Nat.le_refl _) (.bool false))
            clear hHeld
            obtain ⟨z0, z1, z2, z3, z4, z5, z6, z7, z8, z9⟩ := BN.out.ten
            obtain ⟨r0, r1, r2, r3, r4, r5, r6, r7, r8, r9⟩ := BL.out.ten
            obtain ⟨s0, s1, s2, s3, s4, s5, s6, s7, s8, s9⟩ := BL.out.froz10
            have ltL := BL.out.lt
            have ltN := BN.out.lt
            go_wp2_with fail
            clear z0 z1 z2 z3 z4 z5 z6 z7 z8 z9 r0 r1 r2 r3 r4 r5 r6 r7 r8 r9 s0 s1 s2 s3 s4 s5 s6 s7 s8 s9
            obtain ⟨q0, q1, q2, q3, q4, q5, q6, q7, q8, q9⟩ := BF.out.ten
            exact bodyPost_ret (v := .tuple #[labV Lab.zero, .int .i64 90]) (by simp [results, Try.results17, go_sem, q0, q1, q2, q3, q4, q5, q6, q7, q8, q9]; rfl) rfl ⟨rfl, HF.out⟩
      · have e14 : (((n14 : Nat) : Int) == 255) = false := by simp; omega
        rw [if_neg h14] at HP
        clear h14
        have BN := BM
        have HN := HM
        go_wp2_with fail
        clear z0 z1 z2 z3 z4 z5 z6 z7 z8 z9 y0 y1 y2 y3 y4 y5 y6 y7 y8 y9 ltN f14' BM HM
        generalize wm = wn at *
        have BL := Lib.hid (BR.out.here HN.out)
        have RN := Lib.hid (R1.out.below HN.out)
        have hgn : Hid (Below w.heap.size w wn) := B0.out.trans ((thence B1.out HN.out (Nat.le_refl _)).mono B0.out.size)
        have CM := Lib.hid (refLMay_any ni nv (n9 : Int) (n10 : Int) (n11 : Int) (n12 : Int) (n13 : Int) (n14 : Int) (n15 : Int) op)
        have ltL := BL.out.lt
        have ltN := BN.out.lt
        obtain ⟨z0, z1, z2, z3, z4, z5, z6, z7, z8, z9⟩ := BN.out.ten
        cases hm : Lab.may ⟨ni, nv, (n9 : Int), (n10 : Int), (n11 : Int), (n12 : Int), (n13 : Int), (n14 : Int), (n15 : Int), op⟩ with
        | false =>
          rw [hm] at CM
          have hgd : LB.good m = false := by unfold LB.good; rw [HP.out, hm]; rfl
          have hx := HX.out
          rw [hgd, if_neg (by decide)] at hx
          injection hx with hx1 hx2
          subst hx1 hx2
          clear hm hgd HX
          refine wp_region_noPanic ?_
          refine PX.wp_region_y (fun w' => Below wn.heap.size wn w') [] (by kernel_rfl) (Below.refl _ _).drew (fun hHeld => ?_)
          refine PX.wpAnyY_take (i := 0) (oi := ?_) (v := ?_) ?_ (by kernel_rfl) (by kernel_rfl) (by kernel_rfl) (by kernel_rfl) (by kernel_rfl) (fun _ _ _ h => h) (Or.inl ⟨?_, ?_⟩) (by assumption) ?_
          rotate_left 2
          · simp only [List.getElem?_toArray, List.getElem?_cons_succ, List.getElem?_cons_zero]; rfl
          · rfl
          · intro w hSw; (try dsimp only at hSw); have hC := fun (b o : Nat) (h : b < wn.heap.size) => Below.cell hSw (p := ⟨b, o, none⟩) h; go_simp <;> with_reducible rfl
          (try simp only [Act.put, List.setIfInBounds_toArray, List.set_cons_zero, List.set_cons_succ])
          refine PX.wpAnyY_one (i := 1) (o := ?_) (by kernel_rfl) ?_ (fun Kq hKq => ?_)
          rotate_left
          · simp only [List.getElem?_toArray, List.getElem?_cons_succ, List.getElem?_cons_zero]; rfl
          go_simp
          (with_reducible refine (CM.out _).mono ?_)
          rintro e u1 ⟨rfl, bq⟩
          have H1 := Lib.hid (thence hHeld bq (Nat.le_refl _))
          clear bq
          go_wp2_with fail
          refine hKq.out _ _ (H1.out) (fun hHeld => ?_)
          clear hKq Kq
          (try simp only [Act.put, List.setIfInBounds_toArray, List.set_cons_zero, List.set_cons_succ])
          refine PX.wpAnyY_one (i := 2) (o := ?_) (by kernel_rfl) ?_ (fun Kq hKq => ?_)
          rotate_left
          · simp only [List.getElem?_toArray, List.getElem?_cons_succ, List.getElem?_cons_zero]; rfl
          go_simp
          refine hKq.out _ _ (hHeld) (fun hHeld => ?_)
          clear hKq Kq
          (try simp only [Act.put, List.setIfInBounds_toArray, List.set_cons_zero, List.set_cons_succ])
          refine PX.wpAnyY_one (i := 3) (o := ?_) (by kernel_rfl) ?_ (fun Kq hKq => ?_)
          rotate_left
          · simp only [List.getElem?_toArray, List.getElem?_cons_succ, List.getElem?_cons_zero]; rfl
          go_simp
          refine hKq.out _ _ (hHeld) (fun hHeld => ?_)
          clear hKq Kq
          (try simp only [Act.put, List.setIfInBounds_toArray, List.set_cons_zero, List.set_cons_succ])
          refine PX.wpAnyY_take (i := 4) (oi := ?_) (v := undef) ?_ (by kernel_rfl) (by kernel_rfl) (by kernel_rfl) (by kernel_rfl) (by kernel_rfl) (fun _ _ _ h => h) (Or.inr ⟨?_, rfl⟩) (by assumption) ?_
          rotate_left
          · simp only [List.getElem?_toArray, List.getElem?_cons_succ, List.getElem?_cons_zero]; rfl
          · rfl
          (try simp only [Act.put, List.setIfInBounds_toArray, List.set_cons_zero, List.set_cons_succ])
          refine PX.wpAnyY_take (i := 5) (oi := ?_) (v := undef) ?_ (by kernel_rfl) (by kernel_rfl) (by kernel_rfl) (by kernel_rfl) (by kernel_rfl) (fun _ _ _ h => h) (Or.inr ⟨?_, rfl⟩) (by assumption) ?_
          rotate_left
          · simp only [List.getElem?_toArray, List.getElem?_cons_succ, List.getElem?_cons_zero]; rfl
          · rfl
          (try simp only [Act.put, List.setIfInBounds_toArray, List.set_cons_zero, List.set_cons_succ])
          refine PX.wpAnyY_take (i := 6) (oi := ?_) (v := undef) ?_ (by kernel_rfl) (by kernel_rfl) (by kernel_rfl) (by kernel_rfl) (by kernel_rfl) (fun _ _ _ h => h) (Or.inr ⟨?_, rfl⟩) (by assumption) ?_
          rotate_left
          · simp only [List.getElem?_toArray, List.getElem?_cons_succ, List.getElem?_cons_zero]; rfl
          · rfl
          (try simp only [Act.put, List.setIfInBounds_toArray, List.set_cons_zero, List.set_cons_succ])
          refine PX.wpAnyY_one (i := 7) (o := ?_) (by kernel_rfl) ?_ (fun Kq hKq => ?_)
          rotate_left
          · simp only [List.getElem?_toArray, List.getElem?_cons_succ, List.getElem?_cons_zero]; rfl
          go_simp
          refine hKq.out _ _ (hHeld) (fun hHeld => ?_)
          clear hKq Kq
          (try simp only [Act.put, List.setIfInBounds_toArray, List.set_cons_zero, List.set_cons_succ])
          refine PX.wpAnyY_one (i := 8) (o := ?_) (by kernel_rfl) ?_ (fun Kq hKq => ?_)
          rotate_left
          · simp only [List.getElem?_toArray, List.getElem?_cons_succ, List.getElem?_cons_zero]; rfl
          go_simp
          refine hKq.out _ _ (hHeld) (fun hHeld => ?_)
          clear hKq Kq
          (try simp only [Act.put, List.setIfInBounds_toArray, List.set_cons_zero, List.set_cons_succ])
          refine PX.wpAnyY_one (i := 9) (o := ?_) (by kernel_rfl) ?_ (fun Kq hKq => ?_)
          rotate_left
          · simp only [List.getElem?_toArray, List.getElem?_cons_succ, List.getElem?_cons_zero]; rfl
          go_simp
          refine hKq.out _ _ (hHeld) (fun hHeld => ?_)
          clear hKq Kq
          (try simp only [Act.put, List.setIfInBounds_toArray, List.set_cons_zero, List.set_cons_succ])
          refine PX.wpAnyY_one (i := 10) (o := ?_) (by kernel_rfl) ?_ (fun Kq hKq => ?_)
          rotate_left
          · simp only [List.getElem?_toArray, List.getElem?_cons_succ, List.getElem?_cons_zero]; rfl
          go_simp
          refine hKq.out _ _ (hHeld) (fun hHeld => ?_)
          clear hKq Kq
          (try simp only [Act.put, List.setIfInBounds_toArray, List.set_cons_zero, List.set_cons_succ])
          refine PX.wpAnyY_done (by kernel_rfl) ?_ _
          refine NoPanic.normal ?_
          replace BL := Lib.hid (BL.out.here H1.out)
          replace BN := Lib.hid (BN.out.here H1.out)
          have HU := Lib.hid (hgn.out.trans (H1.out.mono hgn.out.size))
          clear ltL ltN
          have BF : Hid (Bx ((((((((((u1.setCell ⟨w.heap.size, 0, none⟩ (.int .u32 0)).setCell ⟨w.heap.size, 1, none⟩ (.int .u32 0)).setCell ⟨w.heap.size, 2, none⟩ (.int .i64 0)).setCell ⟨w.heap.size, 3, none⟩ (.int .i64 0)).setCell ⟨w.heap.size, 4, none⟩ (.int .i64 0)).setCell ⟨w.heap.size, 5, none⟩ (.int .i64 0)).setCell ⟨w.heap.size, 6, none⟩ (.int .i64 0)).setCell ⟨w.heap.size, 7, none⟩ (.int .i64 0)).setCell ⟨w.heap.size, 8, none⟩ (.int .i64 0)).setCell ⟨w.heap.size, 9, none⟩ (.bool false)) w.heap.size [.int .u32 0, .int .u32 0, .int .i64 0, .int .i64 0, .int .i64 0, .int .i64 0, .int .i64 0, .int .i64 0, .int .i64 0, .bool false]) := ((((((((((BL.out.set 0 (.int .u32 0)).set 1 (.int .u32 0)).set 2 (.int .i64 0)).set 3 (.int .i64 0)).set 4 (.int .i64 0)).set 5 (.int .i64 0)).set 6 (.int .i64 0)).set 7 (.int .i64 0)).set 8 (.int .i64 0)).set 9 (.bool false))
          have HF : Hid (Below w.heap.size w ((((((((((u1.setCell ⟨w.heap.size, 0, none⟩ (.int .u32 0)).setCell ⟨w.heap.size, 1, none⟩ (.int .u32 0)).setCell ⟨w.heap.size, 2, none⟩ (.int .i64 0)).setCell ⟨w.heap.size, 3, none⟩ (.int .i64 0)).setCell ⟨w.heap.size, 4, none⟩ (.int .i64 0)).setCell ⟨w.heap.size, 5, none⟩ (.int .i64 0)).setCell ⟨w.heap.size, 6, none⟩ (.int .i64 0)).setCell ⟨w.heap.size, 7, none⟩ (.int .i64 0)).setCell ⟨w.heap.size, 8, none⟩ (.int .i64 0)).setCell ⟨w.heap.size, 9, none⟩ (.bool false))) := ((((((((((HU.out.setCell (Nat.le_refl _) (.int .u32 0)).setCell (Nat.le_refl _) (.int .u32 0)).setCell (Nat.le_refl _) (.int .i64 0)).setCell (Nat.le_refl _) (.int .i64 0)).setCell (Nat.le_refl _) (.int .i64 0)).setCell (Nat.le_refl _) (.int .i64 0)).setCell (Nat.le_refl _) (.int .i64 0)).setCell (Nat.le_refl _) (.int .i64 0)).setCell (Nat.le_refl _) (.int .i64 0)).setCell (Nat.le_refl _) (.bool false))
          clear hHeld
          obtain ⟨z0, z1, z2, z3, z4, z5, z6, z7, z8, z9⟩ := BN.out.ten
          obtain ⟨r0, r1, r2, r3, r4, r5, r6, r7, r8, r9⟩ := BL.out.ten
          obtain ⟨s0, s1, s2, s3, s4, s5, s6, s7, s8, s9⟩ := BL.out.froz10
          have ltL := BL.out.lt
          have ltN := BN.out.lt
          go_wp2_with fail
          clear z0 z1 z2 z3 z4 z5 z6 z7 z8 z9 r0 r1 r2 r3 r4 r5 r6 r7 r8 r9 s0 s1 s2 s3 s4 s5 s6 s7 s8 s9
          obtain ⟨q0, q1, q2, q3, q4, q5, q6, q7, q8, q9⟩ := BF.out.ten
          exact bodyPost_ret (v := .tuple #[labV Lab.zero, .int .i64 90]) (by simp [results, Try.results17, go_sem, q0, q1, q2, q3, q4, q5, q6, q7, q8, q9]; rfl) rfl ⟨rfl, HF.out⟩
        | true =>
          have hmay := LB.may_iff.1 hm
          have CB := Lib.hid (fun w1 => refLBlock_any ni nv (n9 : Int) (n10 : Int) (n11 : Int) (n12 : Int) (n13 : Int) (n14 : Int) (n15 : Int) op w1 HI.out hmay)
          have HBB : Hid (Bytes (Lab.block ⟨ni, nv, (n9 : Int), (n10 : Int), (n11 : Int), (n12 : Int), (n13 : Int), (n14 : Int), (n15 : Int), op⟩)) := LB.block_bytes hmay HI.out
          have HBL : Hid ((Lab.block ⟨ni, nv, (n9 : Int), (n10 : Int), (n11 : Int), (n12 : Int), (n13 : Int), (n14 : Int), (n15 : Int), op⟩).length = 128) := LB.block_length _
          rw [hm] at CM
          have hgd : LB.good m = decide (Lab.block ⟨ni, nv, (n9 : Int), (n10 : Int), (n11 : Int), (n12 : Int), (n13 : Int), (n14 : Int), (n15 : Int), op⟩ = m) := by unfold LB.good; rw [HP.out, hm]; rfl
          have hx := HX.out
          rw [hgd, HP.out] at hx
          clear hm hgd hmay HX
          generalize hBK : Lab.block ⟨ni, nv, (n9 : Int), (n10 : Int), (n11 : Int), (n12 : Int), (n13 : Int), (n14 : Int), (n15 : Int), op⟩ = K at *
          clear hBK
          by_cases hk : K = m
          · have hn : ((str K).toList == (str m).toList) = true := by rw [str_two HBB.out HB.out]; exact decide_eq_true hk
            rw [decide_eq_true hk, if_pos rfl] at hx
            injection hx with hx1 hx2
            subst hx1 hx2
            clear hk
            refine wp_region_noPanic ?_
            refine PX.wp_region_y (fun w' => Below wn.heap.size wn w') [] (by kernel_rfl) (Below.refl _ _).drew (fun hHeld => ?_)
            refine PX.wpAnyY_take (i := 0) (oi := ?_) (v := ?_) ?_ (by kernel_rfl) (by kernel_rfl) (by kernel_rfl) (by kernel_rfl) (by kernel_rfl) (fun _ _ _ h => h) (Or.inl ⟨?_, ?_⟩) (by assumption) ?_
            rotate_left 2
            · simp only [List.getElem?_toArray, List.getElem?_cons_succ, List.getElem?_cons_zero]; rfl
            · rfl
            · intro w hSw; (try dsimp only at hSw); have hC := fun (b o : Nat) (h : b < wn.heap.size) => Below.cell hSw (p := ⟨b, o, none⟩) h; go_simp <;> with_reducible rfl
            (try simp only [Act.put, List.setIfInBounds_toArray, List.set_cons_zero, List.set_cons_succ])
            refine PX.wpAnyY_one (i := 1) (o := ?_) (by kernel_rfl) ?_ (fun Kq hKq => ?_)
            rotate_left
            · simp only [List.getElem?_toArray, List.getElem?_cons_succ, List.getElem?_cons_zero]; rfl
            go_simp
            (with_reducible refine (CM.out _).mono ?_)
            rintro e u1 ⟨rfl, bq⟩
            have H1 := Lib.hid (thence hHeld bq (Nat.le_refl _))
            clear bq
            go_wp2_with fail
            refine hKq.out _ _ (H1.out) (fun hHeld => ?_)
            clear hKq Kq
            (try simp only [Act.put, List.setIfInBounds_toArray, List.set_cons_zero, List.set_cons_succ])
            refine PX.wpAnyY_one (i := 2) (o := ?_) (by kernel_rfl) ?_ (fun Kq hKq => ?_)
            rotate_left
            · simp only [List.getElem?_toArray, List.getElem?_cons_succ, List.getElem?_cons_zero]; rfl
            go_simp
            refine hKq.out _ _ (hHeld) (fun hHeld => ?_)
            clear hKq Kq
            (try simp only [Act.put, List.setIfInBounds_toArray, List.set_cons_zero, List.set_cons_succ])
            refine PX.wpAnyY_one (i := 3) (o := ?_) (by kernel_rfl) ?_ (fun Kq hKq => ?_)
            rotate_left
            · simp only [List.getElem?_toArray, List.getElem?_cons_succ, List.getElem?_cons_zero]; rfl
            go_simp
            refine hKq.out _ _ (hHeld) (fun hHeld => ?_)
            clear hKq Kq
            (try simp only [Act.put, List.setIfInBounds_toArray, List.set_cons_zero, List.set_cons_succ])
            refine PX.wpAnyY_take (i := 4) (oi := ?_) (v := ?_) ?_ (by kernel_rfl) (by kernel_rfl) (by kernel_rfl) (by kernel_rfl) (by kernel_rfl) (fun _ _ _ h => h) (Or.inl ⟨?_, ?_⟩) (by assumption) ?_
            rotate_left 2
            · simp only [List.getElem?_toArray, List.getElem?_cons_succ, List.getElem?_cons_zero]; rfl
            · rfl
            · intro w hSw; (try dsimp only at hSw); have hC := fun (b o : Nat) (h : b < wn.heap.size) => Below.cell hSw (p := ⟨b, o, none⟩) h; go_simp <;> with_reducible rfl
            (try simp only [Act.put, List.setIfInBounds_toArray, List.set_cons_zero, List.set_cons_succ])
            refine PX.wpAnyY_take (i := 7) (oi := ?_) (v := ?_) ?_ (by kernel_rfl) (by kernel_rfl) (by kernel_rfl) (by kernel_rfl) (by kernel_rfl) (fun _ _ _ h => h) (Or.inl ⟨?_, ?_⟩) (by assumption) ?_
            rotate_left 2
            · simp only [List.getElem?_toArray, List.getElem?_cons_succ, List.getElem?_cons_zero]; rfl
            · rfl
            · intro w hSw; (try dsimp only at hSw); go_simp <;> with_reducible rfl
            (try simp only [Act.put, List.setIfInBounds_toArray, List.set_cons_zero, List.set_cons_succ])
            refine PX.wpAnyY_take (i := 8) (oi := ?_) (v := ?_) ?_ (by kernel_rfl) (by kernel_rfl) (by kernel_rfl) (by kernel_rfl) (by kernel_rfl) (fun _ _ _ h => h) (Or.inl ⟨?_, ?_⟩) (by assumption) ?_
            rotate_left 2
            · simp only [List.getElem?_toArray, List.getElem?_cons_succ, List.getElem?_cons_zero]; rfl
            · rfl
            · intro w hSw; (try dsimp only at hSw); have T8 := text_is w _ _ _ _ (RN.out.below (hSw.mono (HN.out.size))); go_simp <;> with_reducible rfl
            (try simp only [Act.put, List.setIfInBounds_toArray, List.set_cons_zero, List.set_cons_succ])
            refine PX.wpAnyY_one (i := 5) (o := ?_) (by kernel_rfl) ?_ (fun Kq hKq => ?_)
            rotate_left
            · simp only [List.getElem?_toArray, List.getElem?_cons_succ, List.getElem?_cons_zero]; rfl
            go_simp
            (with_reducible refine (CB.out _).mono ?_)
            rintro e u5 ⟨g5, rfl, hg5, hb5, bq⟩
            have H5 := Lib.hid (thence hHeld bq (Nat.le_refl _))
            have T5 := text_is u5 _ _ _ _ (hb5.rd HBL.out HBB.out)
            clear bq
            go_wp2_with fail
            refine hKq.out _ _ (H5.out) (fun hHeld => ?_)
            clear hKq Kq
            (try simp only [Act.put, List.setIfInBounds_toArray, List.set_cons_zero, List.set_cons_succ])
            refine PX.wpAnyY_one (i := 6) (o := ?_) (by kernel_rfl) ?_ (fun Kq hKq => ?_)
            rotate_left
            · simp only [List.getElem?_toArray, List.getElem?_cons_succ, List.getElem?_cons_zero]; rfl
            go_simp
            refine hKq.out _ _ (hHeld) (fun hHeld => ?_)
            clear hKq Kq
            (try simp only [Act.put, List.setIfInBounds_toArray, List.set_cons_zero, List.set_cons_succ])
            refine PX.wpAnyY_one (i := 9) (o := ?_) (by kernel_rfl) ?_ (fun Kq hKq => ?_)
            rotate_left
            · simp only [List.getElem?_toArray, List.getElem?_cons_succ, List.getElem?_cons_zero]; rfl
            go_simp
            refine hKq.out _ _ (hHeld) (fun hHeld => ?_)
            clear hKq Kq
            (try simp only [Act.put, List.setIfInBounds_toArray, List.set_cons_zero, List.set_cons_succ])
            refine PX.wpAnyY_one (i := 10) (o := ?_) (by kernel_rfl) ?_ (fun Kq hKq => ?_)
            rotate_left
            · simp only [List.getElem?_toArray, List.getElem?_cons_succ, List.getElem?_cons_zero]; rfl
            go_simp
            refine hKq.out _ _ (hHeld) (fun hHeld => ?_)
            clear hKq Kq
            (try simp only [Act.put, List.setIfInBounds_toArray, List.set_cons_zero, List.set_cons_succ])
            refine PX.wpAnyY_done (by kernel_rfl) ?_ _
            refine NoPanic.normal ?_
            replace BL := Lib.hid (BL.out.here H5.out)
            replace BN := Lib.hid (BN.out.here H5.out)
            have HU := Lib.hid (hgn.out.trans (H5.out.mono hgn.out.size))
            clear ltL ltN
            have BF : Hid (Bx ((((((((((u5.setCell ⟨w.heap.size, 0, none⟩ (.int .u32 (ni : Int))).setCell ⟨w.heap.size, 1, none⟩ (.int .u32 (nv : Int))).setCell ⟨w.heap.size, 2, none⟩ (.int .i64 (n9 : Int))).setCell ⟨w.heap.size, 3, none⟩ (.int .i64 (n10 : Int))).setCell ⟨w.heap.size, 4, none⟩ (.int .i64 (n11 : Int))).setCell ⟨w.heap.size, 5, none⟩ (.int .i64 (n12 : Int))).setCell ⟨w.heap.size, 6, none⟩ (.int .i64 (n13 : Int))).setCell ⟨w.heap.size, 7, none⟩ (.int .i64 (n14 : Int))).setCell ⟨w.heap.size, 8, none⟩ (.int .i64 (n15 : Int))).setCell ⟨w.heap.size, 9, none⟩ (.bool op)) w.heap.size [.int .u32 (ni : Int), .int .u32 (nv : Int), .int .i64 (n9 : Int), .int .i64 (n10 : Int), .int .i64 (n11 : Int), .int .i64 (n12 : Int), .int .i64 (n13 : Int), .int .i64 (n14 : Int), .int .i64 (n15 : Int), .bool op]) := ((((((((((BL.out.set 0 (.int .u32 (ni : Int))).set 1 (.int .u32 (nv : Int))).set 2 (.int .i64 (n9 : Int))).set 3 (.int .i64 (n10 : Int))).set 4 (.int .i64 (n11 : Int))).set 5 (.int .i64 (n12 : Int))).set 6 (.int .i64 (n13 : Int))).set 7 (.int .i64 (n14 : Int))).set 8 (.int .i64 (n15 : Int))).set 9 (.bool op))
            have HF : Hid (Below w.heap.size w ((((((((((u5.setCell ⟨w.heap.size, 0, none⟩ (.int .u32 (ni : Int))).setCell ⟨w.heap.size, 1, none⟩ (.int .u32 (nv : Int))).setCell ⟨w.heap.size, 2, none⟩ (.int .i64 (n9 : Int))).setCell ⟨w.heap.size, 3, none⟩ (.int .i64 (n10 : Int))).setCell ⟨w.heap.size, 4, none⟩ (.int .i64 (n11 : Int))).setCell ⟨w.heap.size, 5, none⟩ (.int .i64 (n12 : Int))).setCell ⟨w.heap.size, 6, none⟩ (.int .i64 (n13 : Int))).setCell ⟨w.heap.size, 7, none⟩ (.int .i64 (n14 : Int))).setCell ⟨w.heap.size, 8, none⟩ (.int .i64 (n15 : Int))).setCell ⟨w.heap.size, 9, none⟩ (.bool op))) := ((((((((((HU.out.setCell (Nat.le_refl _) (.int .u32 (ni : Int))).setCell (Nat.le_refl _) (.int .u32 (nv : Int))).setCell (Nat.le_refl _) (.int .i64 (n9 : Int))).setCell (Nat.le_refl _) (.int .i64 (n10 : Int))).setCell (Nat.le_refl _) (.int .i64 (n11 : Int))).setCell (Nat.le_refl _) (.int .i64 (n12 : Int))).setCell (Nat.le_refl _) (.int .i64 (n13 : Int))).setCell (Nat.le_refl _) (.int .i64 (n14 : Int))).setCell (Nat.le_refl _) (.int .i64 (n15 : Int))).setCell (Nat.le_refl _) (.bool op))
            clear hHeld
            obtain ⟨z0, z1, z2, z3, z4, z5, z6, z7, z8, z9⟩ := BN.out.ten
            obtain ⟨r0, r1, r2, r3, r4, r5, r6, r7, r8, r9⟩ := BL.out.ten
            obtain ⟨s0, s1, s2, s3, s4, s5, s6, s7, s8, s9⟩ := BL.out.froz10
            have ltL := BL.out.lt
            have ltN := BN.out.lt
            go_wp2_with fail
            clear z0 z1 z2 z3 z4 z5 z6 z7 z8 z9 r0 r1 r2 r3 r4 r5 r6 r7 r8 r9 s0 s1 s2 s3 s4 s5 s6 s7 s8 s9
            obtain ⟨q0, q1, q2, q3, q4, q5, q6, q7, q8, q9⟩ := BF.out.ten
            exact bodyPost_ret (v := .tuple #[labV ⟨ni, nv, (n9 : Int), (n10 : Int), (n11 : Int), (n12 : Int), (n13 : Int), (n14 : Int), (n15 : Int), op⟩, .int .i64 0]) (by simp [results, Try.results17, go_sem, q0, q1, q2, q3, q4, q5, q6, q7, q8, q9]; rfl) rfl ⟨rfl, HF.out⟩
          · have hn : ((str K).toList == (str m).toList) = false := by rw [str_two HBB.out HB.out]; exact decide_eq_false hk
            rw [decide_eq_false hk, if_neg (by decide)] at hx
            injection hx with hx1 hx2
            subst hx1 hx2
            clear hk
            refine wp_region_noPanic ?_
            refine PX.wp_region_y (fun w' => Below wn.heap.size wn w') [] (by kernel_rfl) (Below.refl _ _).drew (fun hHeld => ?_)
            refine PX.wpAnyY_take (i := 0) (oi := ?_) (v := ?_) ?_ (by kernel_rfl) (by kernel_rfl) (by kernel_rfl) (by kernel_rfl) (by kernel_rfl) (fun _ _ _ h => h) (Or.inl ⟨?_, ?_⟩) (by assumption) ?_
            rotate_left 2
            · simp only [List.getElem?_toArray, List.getElem?_cons_succ, List.getElem?_cons_zero]; rfl
            · rfl
            · intro w hSw; (try dsimp only at hSw); have hC := fun (b o : Nat) (h : b < wn.heap.size) => Below.cell hSw (p := ⟨b, o, none⟩) h; go_simp <;> with_reducible rfl
            (try simp only [Act.put, List.setIfInBounds_toArray, List.set_cons_zero, List.set_cons_succ])
            refine PX.wpAnyY_one (i := 1) (o := ?_) (by kernel_rfl) ?_ (fun Kq hKq => ?_)
            rotate_left
            · simp only [List.getElem?_toArray, List.getElem?_cons_succ, List.getElem?_cons_zero]; rfl
            go_simp
            (with_reducible refine (CM.out _).mono ?_)
            rintro e u1 ⟨rfl, bq⟩
            have H1 := Lib.hid (thence hHeld bq (Nat.le_refl _))
            clear bq
            go_wp2_with fail
            refine hKq.out _ _ (H1.out) (fun hHeld => ?_)
            clear hKq Kq
            (try simp only [Act.put, List.setIfInBounds_toArray, List.set_cons_zero, List.set_cons_succ])
            refine PX.wpAnyY_one (i := 2) (o := ?_) (by kernel_rfl) ?_ (fun Kq hKq => ?_)
            rotate_left
            · simp only [List.getElem?_toArray, List.getElem?_cons_succ, List.getElem?_cons_zero]; rfl
            go_simp
            refine hKq.out _ _ (hHeld) (fun hHeld => ?_)
            clear hKq Kq
            (try simp only [Act.put, List.setIfInBounds_toArray, List.set_cons_zero, List.set_cons_succ])
            refine PX.wpAnyY_one (i := 3) (o := ?_) (by kernel_rfl) ?_ (fun Kq hKq => ?_)
            rotate_left
            · simp only [List.getElem?_toArray, List.getElem?_cons_succ, List.getElem?_cons_zero]; rfl
            go_simp
            refine hKq.out _ _ (hHeld) (fun hHeld => ?_)
            clear hKq Kq
            (try simp only [Act.put, List.setIfInBounds_toArray, List.set_cons_zero, List.set_cons_succ])
            refine PX.wpAnyY_take (i := 4) (oi := ?_) (v := ?_) ?_ (by kernel_rfl) (by kernel_rfl) (by kernel_rfl) (by kernel_rfl) (by kernel_rfl) (fun _ _ _ h => h) (Or.inl ⟨?_, ?_⟩) (by assumption) ?_
            rotate_left 2
            · simp only [List.getElem?_toArray, List.getElem?_cons_succ, List.getElem?_cons_zero]; rfl
            · rfl
            · intro w hSw; (try dsimp only at hSw); have hC := fun (b o : Nat) (h : b < wn.heap.size) => Below.cell hSw (p := ⟨b, o, none⟩) h; go_simp <;> with_reducible rfl
            (try simp only [Act.put, List.setIfInBounds_toArray, List.set_cons_zero, List.set_cons_succ])
            refine PX.wpAnyY_take (i := 7) (oi := ?_) (v := ?_) ?_ (by kernel_rfl) (by kernel_rfl) (by kernel_rfl) (by kernel_rfl) (by kernel_rfl) (fun _ _ _ h => h) (Or.inl ⟨?_, ?_⟩) (by assumption) ?_
            rotate_left 2
            · simp only [List.getElem?_toArray, List.getElem?_cons_succ, List.getElem?_cons_zero]; rfl
            · rfl
            · intro w hSw; (try dsimp only at hSw); go_simp <;> with_reducible rfl
            (try simp only [Act.put, List.setIfInBounds_toArray, List.set_cons_zero, List.set_cons_succ])
            refine PX.wpAnyY_take (i := 8) (oi := ?_) (v := ?_) ?_ (by kernel_rfl) (by kernel_rfl) (by kernel_rfl) (by kernel_rfl) (by kernel_rfl) (fun _ _ _ h => h) (Or.inl ⟨?_, ?_⟩) (by assumption) ?_
            rotate_left 2
            · simp only [List.getElem?_toArray, List.getElem?_cons_succ, List.getElem?_cons_zero]; rfl
            · rfl
            · intro w hSw; (try dsimp only at hSw); have T8 := text_is w _ _ _ _ (RN.out.below (hSw.mono (HN.out.size))); go_simp <;> with_reducible rfl
            (try simp only [Act.put, List.setIfInBounds_toArray, List.set_cons_zero, List.set_cons_succ])
            refine PX.wpAnyY_one (i := 5) (o := ?_) (by kernel_rfl) ?_ (fun Kq hKq => ?_)
            rotate_left
            · simp only [List.getElem?_toArray, List.getElem?_cons_succ, List.getElem?_cons_zero]; rfl
            go_simp
            (with_reducible refine (CB.out _).mono ?_)
            rintro e u5 ⟨g5, rfl, hg5, hb5, bq⟩
            have H5 := Lib.hid (thence hHeld bq (Nat.le_refl _))
            have T5 := text_is u5 _ _ _ _ (hb5.rd HBL.out HBB.out)
            clear bq
            go_wp2_with fail
            refine hKq.out _ _ (H5.out) (fun hHeld => ?_)
            clear hKq Kq
            (try simp only [Act.put, List.setIfInBounds_toArray, List.set_cons_zero, List.set_cons_succ])
            refine PX.wpAnyY_one (i := 6) (o := ?_) (by kernel_rfl) ?_ (fun Kq hKq => ?_)
            rotate_left
            · simp only [List.getElem?_toArray, List.getElem?_cons_succ, List.getElem?_cons_zero]; rfl
            go_simp
            refine hKq.out _ _ (hHeld) (fun hHeld => ?_)
            clear hKq Kq
            (try simp only [Act.put, List.setIfInBounds_toArray, List.set_cons_zero, List.set_cons_succ])
            refine PX.wpAnyY_one (i := 9) (o := ?_) (by kernel_rfl) ?_ (fun Kq hKq => ?_)
            rotate_left
            · simp only [List.getElem?_toArray, List.getElem?_cons_succ, List.getElem?_cons_zero]; rfl
            go_simp
            refine hKq.out _ _ (hHeld) (fun hHeld => ?_)
            clear hKq Kq
            (try simp only [Act.put, List.setIfInBounds_toArray, List.set_cons_zero, List.set_cons_succ])
            refine PX.wpAnyY_one (i := 10) (o := ?_) (by kernel_rfl) ?_ (fun Kq hKq => ?_)
            rotate_left
            · simp only [List.getElem?_toArray, List.getElem?_cons_succ, List.getElem?_cons_zero]; rfl
            go_simp
            refine hKq.out _ _ (hHeld) (fun hHeld => ?_)
            clear hKq Kq
            (try simp only [Act.put, List.setIfInBounds_toArray, List.set_cons_zero, List.set_cons_succ])
            refine PX.wpAnyY_done (by kernel_rfl) ?_ _
            refine NoPanic.normal ?_
            replace BL := Lib.hid (BL.out.here H5.out)
            replace BN := Lib.hid (BN.out.here H5.out)
            have HU := Lib.hid (hgn.out.trans (H5.out.mono hgn.out.size))
            clear ltL ltN
            have BF : Hid (Bx ((((((((((u5.setCell ⟨w.heap.size, 0, none⟩ (.int .u32 0)).setCell ⟨w.heap.size, 1, none⟩ (.int .u32 0)).setCell ⟨w.heap.size, 2, none⟩ (.int .i64 0)).setCell ⟨w.heap.size, 3, none⟩ (.int .i64 0)).setCell ⟨w.heap.size, 4, none⟩ (.int .i64 0)).setCell ⟨w.heap.size, 5, none⟩ (.int .i64 0)).setCell ⟨w.heap.size, 6, none⟩ (.int .i64 0)).setCell ⟨w.heap.size, 7, none⟩ (.int .i64 0)).setCell ⟨w.heap.size, 8, none⟩ (.int .i64 0)).setCell ⟨w.heap.size, 9, none⟩ (.bool false)) w.heap.size [.int .u32 0, .int .u32 0, .int .i64 0, .int .i64 0, .int .i64 0, .int .i64 0, .int .i64 0, .int .i64 0, .int .i64 0, .bool false]) := ((((((((((BL.out.set 0 (.int .u32 0)).set 1 (.int .u32 0)).set 2 (.int .i64 0)).set 3 (.int .i64 0)).set 4 (.int .i64 0)).set 5 (.int .i64 0)).set 6 (.int .i64 0)).set 7 (.int .i64 0)).set 8 (.int .i64 0)).set 9 (.bool false))
            have HF : Hid (Below w.heap.size w ((((((((((u5.setCell ⟨w.heap.size, 0, none⟩ (.int .u32 0)).setCell ⟨w.heap.size, 1, none⟩ (.int .u32 0)).setCell ⟨w.heap.size, 2, none⟩ (.int .i64 0)).setCell ⟨w.heap.size, 3, none⟩ (.int .i64 0)).setCell ⟨w.heap.size, 4, none⟩ (.int .i64 0)).setCell ⟨w.heap.size, 5, none⟩ (.int .i64 0)).setCell ⟨w.heap.size, 6, none⟩ (.int .i64 0)).setCell ⟨w.heap.size, 7, none⟩ (.int .i64 0)).setCell ⟨w.heap.size, 8, none⟩ (.int .i64 0)).setCell ⟨w.heap.size, 9, none⟩ (.bool false))) := ((((((((((HU.out.setCell (Nat.le_refl _) (.int .u32 0)).setCell (Nat.le_refl _) (.int .u32 0)).setCell (Nat.le_refl _) (.int .i64 0)).setCell (Nat.le_refl _) (.int .i64 0)).setCell (Nat.le_refl _) (.int .i64 0)).setCell (Nat.le_refl _) (.int .i64 0)).setCell (Nat.le_refl _) (.int .i64 0)).setCell (Nat.le_refl _) (.int .i64 0)).setCell (Nat.le_refl _) (.int .i64 0)).setCell (Nat.le_refl _) (.bool false))
            clear hHeld
            obtain ⟨z0, z1, z2, z3, z4, z5, z6, z7, z8, z9⟩ := BN.out.ten
            obtain ⟨r0, r1, r2, r3, r4, r5, r6, r7, r8, r9⟩ := BL.out.ten
            obtain ⟨s0, s1, s2, s3, s4, s5, s6, s7, s8, s9⟩ := BL.out.froz10
            have ltL := BL.out.lt
            have ltN := BN.out.lt
            go_wp2_with fail
            clear z0 z1 z2 z3 z4 z5 z6 z7 z8 z9 r0 r1 r2 r3 r4 r5 r6 r7 r8 r9 s0 s1 s2 s3 s4 s5 s6 s7 s8 s9
            obtain ⟨q0, q1, q2, q3, q4, q5, q6, q7, q8, q9⟩ := BF.out.ten
            exact bodyPost_ret (v := .tuple #[labV Lab.zero, .int .i64 90]) (by simp [results, Try.results17, go_sem, q0, q1, q2, q3, q4, q5, q6, q7, q8, q9]; rfl) rfl ⟨rfl, HF.out⟩
    · go_simp
      have hl : Below u1.heap.size u1 (u1.alloc (.cells #[.int .u32 0, .int .u32 0, .int .i64 0, .int .i64 0, .int .i64 0, .int .i64 0, .int .i64 0, .int .i64 0, .int .i64 0, .bool false] 28)) := (Below.refl _ _).alloc (Nat.le_refl _) _
      have HA : Hid (Below W1.heap.size W1 (u1.alloc (.cells #[.int .u32 0, .int .u32 0, .int .i64 0, .int .i64 0, .int .i64 0, .int .i64 0, .int .i64 0, .int .i64 0, .int .i64 0, .bool false] 28))) := (thence hHeld hl (Nat.le_refl _))
      have BN : Hid (Bx (u1.alloc (.cells #[.int .u32 0, .int .u32 0, .int .i64 0, .int .i64 0, .int .i64 0, .int .i64 0, .int .i64 0, .int .i64 0, .int .i64 0, .bool false] 28)) u1.heap.size [.int .u32 0, .int .u32 0, .int .i64 0, .int .i64 0, .int .i64 0, .int .i64 0, .int .i64 0, .int .i64 0, .int .i64 0, .bool false]) := Bx.new u1 [.int .u32 0, .int .u32 0, .int .i64 0, .int .i64 0, .int .i64 0, .int .i64 0, .int .i64 0, .int .i64 0, .int .i64 0, .bool false] 28
      have hgb : Hid (W1.heap.size ≤ u1.heap.size) := hHeld.size
      clear hl
      generalize (u1.alloc (.cells #[.int .u32 0, .int .u32 0, .int .i64 0, .int .i64 0, .int .i64 0, .int .i64 0, .int .i64 0, .int .i64 0, .int .i64 0, .bool false] 28)) = wa at *
      obtain ⟨gb, hG⟩ : ∃ gb, u1.heap.size = gb := ⟨_, rfl⟩
      rw [hG] at BN ⊢
      replace hgb : Hid (W1.heap.size ≤ gb) := hG ▸ hgb.out
      clear hG
      obtain ⟨z0, z1, z2, z3, z4, z5, z6, z7, z8, z9⟩ := BN.out.ten
      obtain ⟨y0, y1, y2, y3, y4, y5, y6, y7, y8, y9⟩ := BN.out.froz10
      have ltN := BN.out.lt
      refine hKq.out _ _ (HA.out) (fun hHeld => ?_)
      clear hKq Kq
      (try simp only [Act.put, List.setIfInBounds_toArray, List.set_cons_zero, List.set_cons_succ])
      refine PX.wpAnyY_one (i := 3) (o := ?_) (by kernel_rfl) ?_ (fun Kq hKq => ?_)
      rotate_left
      · simp only [List.getElem?_toArray, List.getElem?_cons_succ, List.getElem?_cons_zero]; rfl
      go_simp
      refine (CN5.out _ hHeld).mono ?_
      rintro e u3 ⟨rfl, bq⟩
      have H3 := Lib.hid (thence hHeld bq (Nat.le_refl _))
      replace BN := Lib.hid (BN.out.here bq)
      clear z0 z1 z2 z3 z4 z5 z6 z7 z8 z9 y0 y1 y2 y3 y4 y5 y6 y7 y8 y9 ltN
      obtain ⟨z0, z1, z2, z3, z4, z5, z6, z7, z8, z9⟩ := BN.out.ten
      obtain ⟨y0, y1, y2, y3, y4, y5, y6, y7, y8, y9⟩ := BN.out.froz10
      have ltN := BN.out.lt
      clear bq
      go_wp2_with fail
      refine hKq.out _ _ (H3.out) (fun hHeld => ?_)
      clear hKq Kq
      (try simp only [Act.put, List.setIfInBounds_toArray, List.set_cons_zero, List.set_cons_succ])
      refine PX.wpAnyY_one (i := 36) (o := ?_) (by kernel_rfl) ?_ (fun Kq hKq => ?_)
      rotate_left
      · simp only [List.getElem?_toArray, List.getElem?_cons_succ, List.getElem?_cons_zero]; rfl
      go_simp
      refine hKq.out _ _ (hHeld) (fun hHeld => ?_)
      clear hKq Kq
      (try simp only [Act.put, List.setIfInBounds_toArray, List.set_cons_zero, List.set_cons_succ])
      refine PX.wpAnyY_one (i := 38) (o := ?_) (by kernel_rfl) ?_ (fun Kq hKq => ?_)
      rotate_left
      · simp only [List.getElem?_toArray, List.getElem?_cons_succ, List.getElem?_cons_zero]; rfl
      go_simp
      have BM : Hid (Bx ((((((((((u3.setCell ⟨gb, 0, none⟩ (.int .u32 (ni : Int))).setCell ⟨gb, 1, none⟩ (.int .u32 (nv : Int))).setCell ⟨gb, 2, none⟩ (.int .i64 (n9 : Int))).setCell ⟨gb, 3, none⟩ (.int .i64 (n10 : Int))).setCell ⟨gb, 4, none⟩ (.int .i64 (n11 : Int))).setCell ⟨gb, 5, none⟩ (.int .i64 (n12 : Int))).setCell ⟨gb, 6, none⟩ (.int .i64 (n13 : Int))).setCell ⟨gb, 7, none⟩ (.int .i64 (n14 : Int))).setCell ⟨gb, 8, none⟩ (.int .i64 (n15 : Int))).setCell ⟨gb, 9, none⟩ (.bool op)) gb [.int .u32 (ni : Int), .int .u32 (nv : Int), .int .i64 (n9 : Int), .int .i64 (n10 : Int), .int .i64 (n11 : Int), .int .i64 (n12 : Int), .int .i64 (n13 : Int), .int .i64 (n14 : Int), .int .i64 (n15 : Int), .bool op]) := ((((((((((BN.out.set 0 (.int .u32 (ni : Int))).set 1 (.int .u32 (nv : Int))).set 2 (.int .i64 (n9 : Int))).set 3 (.int .i64 (n10 : Int))).set 4 (.int .i64 (n11 : Int))).set 5 (.int .i64 (n12 : Int))).set 6 (.int .i64 (n13 : Int))).set 7 (.int .i64 (n14 : Int))).set 8 (.int .i64 (n15 : Int))).set 9 (.bool op))
      have HM : Hid (Below W1.heap.size W1 ((((((((((u3.setCell ⟨gb, 0, none⟩ (.int .u32 (ni : Int))).setCell ⟨gb, 1, none⟩ (.int .u32 (nv : Int))).setCell ⟨gb, 2, none⟩ (.int .i64 (n9 : Int))).setCell ⟨gb, 3, none⟩ (.int .i64 (n10 : Int))).setCell ⟨gb, 4, none⟩ (.int .i64 (n11 : Int))).setCell ⟨gb, 5, none⟩ (.int .i64 (n12 : Int))).setCell ⟨gb, 6, none⟩ (.int .i64 (n13 : Int))).setCell ⟨gb, 7, none⟩ (.int .i64 (n14 : Int))).setCell ⟨gb, 8, none⟩ (.int .i64 (n15 : Int))).setCell ⟨gb, 9, none⟩ (.bool op))) := ((((((((((hHeld.setCell hgb.out (.int .u32 (ni : Int))).setCell hgb.out (.int .u32 (nv : Int))).setCell hgb.out (.int .i64 (n9 : Int))).setCell hgb.out (.int .i64 (n10 : Int))).setCell hgb.out (.int .i64 (n11 : Int))).setCell hgb.out (.int .i64 (n12 : Int))).setCell hgb.out (.int .i64 (n13 : Int))).setCell hgb.out (.int .i64 (n14 : Int))).setCell hgb.out (.int .i64 (n15 : Int))).setCell hgb.out (.bool op))
      clear BN z0 z1 z2 z3 z4 z5 z6 z7 z8 z9 y0 y1 y2 y3 y4 y5 y6 y7 y8 y9 ltN
      generalize ((((((((((u3.setCell ⟨gb, 0, none⟩ (.int .u32 (ni : Int))).setCell ⟨gb, 1, none⟩ (.int .u32 (nv : Int))).setCell ⟨gb, 2, none⟩ (.int .i64 (n9 : Int))).setCell ⟨gb, 3, none⟩ (.int .i64 (n10 : Int))).setCell ⟨gb, 4, none⟩ (.int .i64 (n11 : Int))).setCell ⟨gb, 5, none⟩ (.int .i64 (n12 : Int))).setCell ⟨gb, 6, none⟩ (.int .i64 (n13 : Int))).setCell ⟨gb, 7, none⟩ (.int .i64 (n14 : Int))).setCell ⟨gb, 8, none⟩ (.int .i64 (n15 : Int))).setCell ⟨gb, 9, none⟩ (.bool op)) = wm at *
      refine hKq.out _ _ (HM.out) (fun hHeld => ?_)
      clear hKq Kq
      (try simp only [Act.put, List.setIfInBounds_toArray, List.set_cons_zero, List.set_cons_succ])
      refine PX.wpAnyY_done (by kernel_rfl) ?_ _
      refine NoPanic.normal ?_
      clear hHeld
      have f14' : wm.cell? ⟨g, 14, none⟩ = some (.int .u8 (n14 : Int)) := (Below.cell HM.out (p := ⟨g, 14, none⟩) hgl).trans f14
      clear f9 f10 f11 f12 f13 f14 f15 f16
      obtain ⟨z0, z1, z2, z3, z4, z5, z6, z7, z8, z9⟩ := BM.out.ten
      obtain ⟨y0, y1, y2, y3, y4, y5, y6, y7, y8, y9⟩ := BM.out.froz10
      have ltN := BM.out.lt
      have ltG : g < wm.heap.size := Nat.lt_of_lt_of_le hgl HM.out.size
      by_cases h14 : n14 = 255
      · have e14 : (((n14 : Nat) : Int) == 255) = true := by simp [h14]
        rw [if_pos h14] at HP
        clear h14
        have BN : Hid (Bx (wm.setCell ⟨gb, 7, none⟩ (.int .i64 (-1))) gb [.int .u32 (ni : Int), .int .u32 (nv : Int), .int .i64 (n9 : Int), .int .i64 (n10 : Int), .int .i64 (n11 : Int), .int .i64 (n12 : Int), .int .i64 (n13 : Int), .int .i64 (-1), .int .i64 (n15 : Int), .bool op]) := BM.out.set 7 (.int .i64 (-1))
        have HN : Hid (Below W1.heap.size W1 (wm.setCell ⟨gb, 7, none⟩ (.int .i64 (-1)))) := HM.out.setCell hgb.out _
        go_wp2_with fail
        clear z0 z1 z2 z3 z4 z5 z6 z7 z8 z9 y0 y1 y2 y3 y4 y5 y6 y7 y8 y9 ltN f14' BM
        generalize (wm.setCell ⟨gb, 7, none⟩ (.int .i64 (-1))) = wn at *
        have BL := Lib.hid (BR.out.here HN.out)
        have RN := Lib.hid (R1.out.below HN.out)
        have hgn : Hid (Below w.heap.size w wn) := B0.out.trans ((thence B1.out HN.out (Nat.le_refl _)).mono B0.out.size)
        have CM := Lib.hid (refLMay_any ni nv (n9 : Int) (n10 : Int) (n11 : Int) (n12 : Int) (n13 : Int) (-1) (n15 : Int) op)
        have ltL := BL.out.lt
        have ltN := BN.out.lt
        obtain ⟨z0, z1, z2, z3, z4, z5, z6, z7, z8, z9⟩ := BN.out.ten
        cases hm : Lab.may ⟨ni, nv, (n9 : Int), (n10 : Int), (n11 : Int), (n12 : Int), (n13 : Int), (-1), (n15 : Int), op⟩ with
        | false =>
          rw [hm] at CM
          have hgd : LB.good m = false := by unfold LB.good; rw [HP.out, hm]; rfl
          have hx := HX.out
          rw [hgd, if_neg (by decide)] at hx
          injection hx with hx1 hx2
          subst hx1 hx2
          clear hm hgd HX
          refine wp_region_noPanic ?_
          refine PX.wp_region_y (fun w' => Below wn.heap.size wn w') [] (by kernel_rfl) (Below.refl _ _).drew (fun hHeld => ?_)
          refine PX.wpAnyY_take (i := 0) (oi := ?_) (v := ?_) ?_ (by kernel_rfl) (by kernel_rfl) (by kernel_rfl) (by kernel_rfl) (by kernel_rfl) (fun _ _ _ h => h) (Or.inl ⟨?_, ?_⟩) (by assumption) ?_
          rotate_left 2
          · simp only [List.getElem?_toArray, List.getElem?_cons_succ, List.getElem?_cons_zero]; rfl
          · rfl
          · intro w hSw; (try dsimp only at hSw); have hC := fun (b o : Nat) (h : b < wn.heap.size) => Below.cell hSw (p := ⟨b, o, none⟩) h; go_simp <;> with_reducible rfl
          (try simp only [Act.put, List.setIfInBounds_toArray, List.set_cons_zero, List.set_cons_succ])
          refine PX.wpAnyY_one (i := 1) (o := ?_) (by kernel_rfl) ?_ (fun Kq hKq => ?_)
          rotate_left
          · simp only [List.getElem?_toArray, List.getElem?_cons_succ, List.getElem?_cons_zero]; rfl
          go_simp
          (with_reducible refine (CM.out _).mono ?_)
          rintro e u1 ⟨rfl, bq⟩
          have H1 := Lib.hid (thence hHeld bq (Nat.le_refl _))
          clear bq
          go_wp2_with fail
          refine hKq.out _ _ (H1.out) (fun hHeld => ?_)
          clear hKq Kq
          (try simp only [Act.put, List.setIfInBounds_toArray, List.set_cons_zero, List.set_cons_succ])
          refine PX.wpAnyY_one (i := 2) (o := ?_) (by kernel_rfl) ?_ (fun Kq hKq => ?_)
          rotate_left
          · simp only [List.getElem?_toArray, List.getElem?_cons_succ, List.getElem?_cons_zero]; rfl
          go_simp
          refine hKq.out _ _ (hHeld) (fun hHeld => ?_)
          clear hKq Kq
          (try simp only [Act.put, List.setIfInBounds_toArray, List.set_cons_zero, List.set_cons_succ])
          refine PX.wpAnyY_one (i := 3) (o := ?_) (by kernel_rfl) ?_ (fun Kq hKq => ?_)
          rotate_left
          · simp only [List.getElem?_toArray, List.getElem?_cons_succ, List.getElem?_cons_zero]; rfl
          go_simp
          refine hKq.out _ _ (hHeld) (fun hHeld => ?_)
          clear hKq Kq
          (try simp only [Act.put, List.setIfInBounds_toArray, List.set_cons_zero, List.set_cons_succ])
          refine PX.wpAnyY_take (i := 4) (oi := ?_) (v := undef) ?_ (by kernel_rfl) (by kernel_rfl) (by kernel_rfl) (by kernel_rfl) (by kernel_rfl) (fun _ _ _ h => h) (Or.inr ⟨?_, rfl⟩) (by assumption) ?_
          rotate_left
          · simp only [List.getElem?_toArray, List.getElem?_cons_succ, List.getElem?_cons_zero]; rfl
          · rfl
          (try simp only [Act.put, List.setIfInBounds_toArray, List.set_cons_zero, List.set_cons_succ])
          refine PX.wpAnyY_take (i := 5) (oi := ?_) (v := undef) ?_ (by kernel_rfl) (by kernel_rfl) (by kernel_rfl) (by kernel_rfl) (by kernel_rfl) (fun _ _ _ h => h) (Or.inr ⟨?_, rfl⟩) (by assumption) ?_
          rotate_left
          · simp only [List.getElem?_toArray, List.getElem?_cons_succ, List.getElem?_cons_zero]; rfl
          · rfl
          (try simp only [Act.put, List.setIfInBounds_toArray, List.set_cons_zero, List.set_cons_succ])
          refine PX.wpAnyY_take (i := 6) (oi := ?_) (v := undef) ?_ (by kernel_rfl) (by kernel_rfl) (by kernel_rfl) (by kernel_rfl) (by kernel_rfl) (fun _ _ _ h => h) (Or.inr ⟨?_, rfl⟩) (by assumption) ?_
          rotate_left
          · simp only [List.getElem?_toArray, List.getElem?_cons_succ, List.getElem?_cons_zero]; rfl
          · rfl
          (try simp only [Act.put, List.setIfInBounds_toArray, List.set_cons_zero, List.set_cons_succ])
          refine PX.wpAnyY_one (i := 7) (o := ?_) (by kernel_rfl) ?_ (fun Kq hKq => ?_)
          rotate_left
          · simp only [List.getElem?_toArray, List.getElem?_cons_succ, List.getElem?_cons_zero]; rfl
          go_simp
          refine hKq.out _ _ (hHeld) (fun hHeld => ?_)
          clear hKq Kq
          (try simp only [Act.put, List.setIfInBounds_toArray, List.set_cons_zero, List.set_cons_succ])
          refine PX.wpAnyY_one (i := 8) (o := ?_) (by kernel_rfl) ?_ (fun Kq hKq => ?_)
          rotate_left
          · simp only [List.getElem?_toArray, List.getElem?_cons_succ, List.getElem?_cons_zero]; rfl
          go_simp
          refine hKq.out _ _ (hHeld) (fun hHeld => ?_)
          clear hKq Kq
          (try simp only [Act.put, List.setIfInBounds_toArray, List.set_cons_zero, List.set_cons_succ])
          refine PX.wpAnyY_one (i := 9) (o := ?_) (by kernel_rfl) ?_ (fun Kq hKq => ?_)
          rotate_left
          · simp only [List.getElem?_toArray, List.getElem?_cons_succ, List.getElem?_cons_zero]; rfl
          go_simp
          refine hKq.out _ _ (hHeld) (fun hHeld => ?_)
          clear hKq Kq
          (try simp only [Act.put, List.setIfInBounds_toArray, List.set_cons_zero, List.set_cons_succ])
          refine PX.wpAnyY_one (i := 10) (o := ?_) (by kernel_rfl) ?_ (fun Kq hKq => ?_)
          rotate_left
          · simp only [List.getElem?_toArray, List.getElem?_cons_succ, List.getElem?_cons_zero]; rfl
          go_simp
          refine hKq.out _ _ (hHeld) (fun hHeld => ?_)
          clear hKq Kq
          (try simp only [Act.put, List.setIfInBounds_toArray, List.set_cons_zero, List.set_cons_succ])
          refine PX.wpAnyY_done (by kernel_rfl) ?_ _
          refine NoPanic.normal ?_
          replace BL := Lib.hid (BL.out.here H1.out)
          replace BN := Lib.hid (BN.out.here H1.out)
          have HU := Lib.hid (hgn.out.trans (H1.out.mono hgn.out.size))
          clear ltL ltN
          have BF : Hid (Bx ((((((((((u1.setCell ⟨w.heap.size, 0, none⟩ (.int .u32 0)).setCell ⟨w.heap.size, 1, none⟩ (.int .u32 0)).setCell ⟨w.heap.size, 2, none⟩ (.int .i64 0)).setCell ⟨w.heap.size, 3, none⟩ (.int .i64 0)).setCell ⟨w.heap.size, 4, none⟩ (.int .i64 0)).setCell ⟨w.heap.size, 5, none⟩ (.int .i64 0)).setCell ⟨w.heap.size, 6, none⟩ (.int .i64 0)).setCell ⟨w.heap.size, 7, none⟩ (.int .i64 0)).setCell ⟨w.heap.size, 8, none⟩ (.int .i64 0)).setCell ⟨w.heap.size, 9, none⟩ (.bool false)) w.heap.size [.int .u32 0, .int .u32 0, .int .i64 0, .int .i64 0, .int .i64 0, .int .i64 0, .int .i64 0, .int .i64 0, .int .i64 0, .bool false]) := ((((((((((BL.out.set 0 (.int .u32 0)).set 1 (.int .u32 0)).set 2 (.int .i64 0)).set 3 (.int .i64 0)).set 4 (.int .i64 0)).set 5 (.int .i64 0)).set 6 (.int .i64 0)).set 7 (.int .i64 0)).set 8 (.int .i64 0)).set 9 (.bool false))
          have HF : Hid (Below w.heap.size w ((((((((((u1.setCell ⟨w.heap.size, 0, none⟩ (.int .u32 0)).setCell ⟨w.heap.size, 1, none⟩ (.int .u32 0)).setCell ⟨w.heap.size, 2, none⟩ (.int .i64 0)).setCell ⟨w.heap.size, 3, none⟩ (.int .i64 0)).setCell ⟨w.heap.size, 4, none⟩ (.int .i64 0)).setCell ⟨w.heap.size, 5, none⟩ (.int .i64 0)).setCell ⟨w.heap.size, 6, none⟩ (.int .i64 0)).setCell ⟨w.heap.size, 7, none⟩ (.int .i64 0)).setCell ⟨w.heap.size, 8, none⟩ (.int .i64 0)).setCell ⟨w.heap.size, 9, none⟩ (.bool false))) := ((((((((((HU.out.setCell (Nat.le_refl _) (.int .u32 0)).setCell (Nat.le_refl _) (.int .u32 0)).setCell (Nat.le_refl _) (.int .i64 0)).setCell (Nat.le_refl _) (.int .i64 0)).setCell (Nat.le_refl _) (.int .i64 0)).setCell (Nat.le_refl _) (.int .i64 0)).setCell (Nat.le_refl _) (.int .i64 0)).setCell (Nat.le_refl _) (.int .i64 0)).setCell (Nat.le_refl _) (.int .i64 0)).setCell (Nat.le_refl _) (.bool false))
          clear hHeld
          obtain ⟨z0, z1, z2, z3, z4, z5, z6, z7, z8, z9⟩ := BN.out.ten
          obtain ⟨r0, r1, r2, r3, r4, r5, r6, r7, r8, r9⟩ := BL.out.ten
          obtain ⟨s0, s1, s2, s3, s4, s5, s6, s7, s8, s9⟩ := BL.out.froz10
          have ltL := BL.out.lt
          have ltN := BN.out.lt
          go_wp2_with fail
          clear z0 z1 z2 z3 z4 z5 z6 z7 z8 z9 r0 r1 r2 r3 r4 r5 r6 r7 r8 r9 s0 s1 s2 s3 s4 s5 s6 s7 s8 s9
          obtain ⟨q0, q1, q2, q3, q4, q5, q6, q7, q8, q9⟩ := BF.out.ten
          exact bodyPost_ret (v := .tuple #[labV Lab.zero, .int .i64 90]) (by simp [results, Try.results17, go_sem, q0, q1, q2, q3, q4, q5, q6, q7, q8, q9]; rfl) rfl ⟨rfl, HF.out⟩
        | true =>
          have hmay := LB.may_iff.1 hm
          have CB := Lib.hid (fun w1 => refLBlock_any ni nv (n9 : Int) (n10 : Int) (n11 : Int) (n12 : Int) (n13 : Int) (-1) (n15 : Int) op w1 HI.out hmay)
          have HBB : Hid (Bytes (Lab.block ⟨ni, nv, (n9 : Int), (n10 : Int), (n11 : Int), (n12 : Int), (n13 : Int), (-1), (n15 : Int), op⟩)) := LB.block_bytes hmay HI.out
          have HBL : Hid ((Lab.block ⟨ni, nv, (n9 : Int), (n10 : Int), (n11 : Int), (n12 : Int), (n13 : Int), (-1), (n15 : Int), op⟩).length = 128) := LB.block_length _
          rw [hm] at CM
          have hgd : LB.good m = decide (Lab.block ⟨ni, nv, (n9 : Int), (n10 : Int), (n11 : Int), (n12 : Int), (n13 : Int), (-1), (n15 : Int), op⟩ = m) := by unfold LB.good; rw [HP.out, hm]; rfl
          have hx := HX.out
          rw [hgd, HP.out] at hx
          clear hm hgd hmay HX
          generalize hBK : Lab.block ⟨ni, nv, (n9 : Int), (n10 : Int), (n11 : Int), (n12 : Int), (n13 : Int), (-1), (n15 : Int), op⟩ = K at *
          clear hBK
          by_cases hk : K = m
          · have hn : ((str K).toList == (str m).toList) = true := by rw [str_two HBB.out HB.out]; exact decide_eq_true hk
            rw [decide_eq_true hk, if_pos rfl] at hx
            injection hx with hx1 hx2
            subst hx1 hx2
            clear hk
            refine wp_region_noPanic ?_
            refine PX.wp_region_y (fun w' => Below wn.heap.size wn w') [] (by kernel_rfl) (Below.refl _ _).drew (fun hHeld => ?_)
            refine PX.wpAnyY_take (i := 0) (oi := ?_) (v := ?_) ?_ (by kernel_rfl) (by kernel_rfl) (by kernel_rfl) (by kernel_rfl) (by kernel_rfl) (fun _ _ _ h => h) (Or.inl ⟨?_, ?_⟩) (by assumption) ?_
            rotate_left 2
            · simp only [List.getElem?_toArray, List.getElem?_cons_succ, List.getElem?_cons_zero]; rfl
            · rfl
            · intro w hSw; (try dsimp only at hSw); have hC := fun (b o : Nat) (h : b < wn.heap.size) => Below.cell hSw (p := ⟨b, o, none⟩) h; go_simp <;> with_reducible rfl
            (try simp only [Act.put, List.setIfInBounds_toArray, List.set_cons_zero, List.set_cons_succ])
            refine PX.wpAnyY_one (i := 1) (o := ?_) (by kernel_rfl) ?_ (fun Kq hKq => ?_)
            rotate_left
            · simp only [List.getElem?_toArray, List.getElem?_cons_succ, List.getElem?_cons_zero]; rfl
            go_simp
            (with_reducible refine (CM.out _).mono ?_)
            rintro e u1 ⟨rfl, bq⟩
            have H1 := Lib.hid (thence hHeld bq (Nat.le_refl _))
            clear bq
            go_wp2_with fail
            refine hKq.out _ _ (H1.out) (fun hHeld => ?_)
            clear hKq Kq
            (try simp only [Act.put, List.setIfInBounds_toArray, List.set_cons_zero, List.set_cons_succ])
            refine PX.wpAnyY_one (i := 2) (o := ?_) (by kernel_rfl) ?_ (fun Kq hKq => ?_)
            rotate_left
            · simp only [List.getElem?_toArray, List.getElem?_cons_succ, List.getElem?_cons_zero]; rfl
            go_simp
            refine hKq.out _ _ (hHeld) (fun hHeld => ?_)
            clear hKq Kq
            (try simp only [Act.put, List.setIfInBounds_toArray, List.set_cons_zero, List.set_cons_succ])
            refine PX.wpAnyY_one (i := 3) (o := ?_) (by kernel_rfl) ?_ (fun Kq hKq => ?_)
            rotate_left
            · simp only [List.getElem?_toArray, List.getElem?_cons_succ, List.getElem?_cons_zero]; rfl
            go_simp
            refine hKq.out _ _ (hHeld) (fun hHeld => ?_)
            clear hKq Kq
            (try simp only [Act.put, List.setIfInBounds_toArray, List.set_cons_zero, List.set_cons_succ])
            refine PX.wpAnyY_take (i := 4) (oi := ?_) (v := ?_) ?_ (by kernel_rfl) (by kernel_rfl) (by kernel_rfl) (by kernel_rfl) (by kernel_rfl) (fun _ _ _ h => h) (Or.inl ⟨?_, ?_⟩) (by assumption) ?_
            rotate_left 2
            · simp only [List.getElem?_toArray, List.getElem?_cons_succ, List.getElem?_cons_zero]; rfl
            · rfl
            · intro w hSw; (try dsimp only at hSw); have hC := fun (b o : Nat) (h : b < wn.heap.size) => Below.cell hSw (p := ⟨b, o, none⟩) h; go_simp <;> with_reducible rfl
            (try simp only [Act.put, List.setIfInBounds_toArray, List.set_cons_zero, List.set_cons_succ])
            refine PX.wpAnyY_take (i := 7) (oi := ?_) (v := ?_) ?_ (by kernel_rfl) (by kernel_rfl) (by kernel_rfl) (by kernel_rfl) (by kernel_rfl) (fun _ _ _ h => h) (Or.inl ⟨?_, ?_⟩) (by assumption) ?_
            rotate_left 2
            · simp only [List.getElem?_toArray, List.getElem?_cons_succ, List.getElem?_cons_zero]; rfl
            · rfl
            · intro w hSw; (try dsimp only at hSw); go_simp <;> with_reducible rfl
            (try simp only [Act.put, List.setIfInBounds_toArray, List.set_cons_zero, List.set_cons_succ])
            refine PX.wpAnyY_take (i := 8) (oi := ?_) (v := ?_) ?_ (by kernel_rfl) (by kernel_rfl) (by kernel_rfl) (by kernel_rfl) (by kernel_rfl) (fun _ _ _ h => h) (Or.inl ⟨?_, ?_⟩) (by assumption) ?_
            rotate_left 2
            · simp only [List.getElem?_toArray, List.getElem?_cons_succ, List.getElem?_cons_zero]; rfl
            · rfl
            · intro w hSw; (try dsimp only at hSw); have T8 := text_is w _ _ _ _ (RN.out.below (hSw.mono (HN.out.size))); go_simp <;> with_reducible rfl
            (try simp only [Act.put, List.setIfInBounds_toArray, List.set_cons_zero, List.set_cons_succ])
            refine PX.wpAnyY_one (i := 5) (o := ?_) (by kernel_rfl) ?_ (fun Kq hKq => ?_)
            rotate_left
            · simp only [List.getElem?_toArray, List.getElem?_cons_succ, List.getElem?_cons_zero]; rfl
            go_simp
            (with_reducible refine (CB.out _).mono ?_)
            rintro e u5 ⟨g5, rfl, hg5, hb5, bq⟩
            have H5 := Lib.hid (thence hHeld bq (Nat.le_refl _))
            have T5 := text_is u5 _ _ _ _ (hb5.rd HBL.out HBB.out)
            clear bq
            go_wp2_with fail
            refine hKq.out _ _ (H5.out) (fun hHeld => ?_)
            clear hKq Kq
            (try simp only [Act.put, List.setIfInBounds_toArray, List.set_cons_zero, List.set_cons_succ])
            refine PX.wpAnyY_one (i := 6) (o := ?_) (by kernel_rfl) ?_ (fun Kq hKq => ?_)
            rotate_left
            · simp only [List.getElem?_toArray, List.getElem?_cons_succ, List.getElem?_cons_zero]; rfl
            go_simp
            refine hKq.out _ _ (hHeld) (fun hHeld => ?_)
            clear hKq Kq
            (try simp only [Act.put, List.setIfInBounds_toArray, List.set_cons_zero, List.set_cons_succ])
            refine PX.wpAnyY_one (i := 9) (o := ?_) (by kernel_rfl) ?_ (fun Kq hKq => ?_)
            rotate_left
            · simp only [List.getElem?_toArray, List.getElem?_cons_succ, List.getElem?_cons_zero]; rfl
            go_simp
            refine hKq.out _ _ (hHeld) (fun hHeld => ?_)
            clear hKq Kq
            (try simp only [Act.put, List.setIfInBounds_toArray, List.set_cons_zero, List.set_cons_succ])
            refine PX.wpAnyY_one (i := 10) (o := ?_) (by kernel_rfl) ?_ (fun Kq hKq => ?_)
            rotate_left
            · simp only [List.getElem?_toArray, List.getElem?_cons_succ, List.getElem?_cons_zero]; rfl
            go_simp
            refine hKq.out _ _ (hHeld) (fun hHeld => ?_)
            clear hKq Kq
            (try simp only [Act.put, List.setIfInBounds_toArray, List.set_cons_zero, List.set_cons_succ])
            refine PX.wpAnyY_done (by kernel_rfl) ?_ _
            refine NoPanic.normal ?_
            replace BL := Lib.hid (BL.out.here H5.out)
            replace BN := Lib.hid (BN.out.here H5.out)
            have HU := Lib.hid (hgn.out.trans (H5.out.mono hgn.out.size))
            clear ltL ltN
            have BF : Hid (Bx ((((((((((u5.setCell ⟨w.heap.size, 0, none⟩ (.int .u32 (ni : Int))).setCell ⟨w.heap.size, 1, none⟩ (.int .u32 (nv : Int))).setCell ⟨w.heap.size, 2, none⟩ (.int .i64 (n9 : Int))).setCell ⟨w.heap.size, 3, none⟩ (.int .i64 (n10 : Int))).setCell ⟨w.heap.size, 4, none⟩ (.int .i64 (n11 : Int))).setCell ⟨w.heap.size, 5, none⟩ (.int .i64 (n12 : Int))).setCell ⟨w.heap.size, 6, none⟩ (.int .i64 (n13 : Int))).setCell ⟨w.heap.size, 7, none⟩ (.int .i64 (-1))).setCell ⟨w.heap.size, 8, none⟩ (.int .i64 (n15 : Int))).setCell ⟨w.heap.size, 9, none⟩ (.bool op)) w.heap.size [.int .u32 (ni : Int), .int .u32 (nv : Int), .int .i64 (n9 : Int), .int .i64 (n10 : Int), .int .i64 (n11 : Int), .int .i64 (n12 : Int), .int .i64 (n13 : Int), .int .i64 (-1), .int .i64 (n15 : Int), .bool op]) := ((((((((((BL.out.set 0 (.int .u32 (ni : Int))).set 1 (.int .u32 (nv : Int))).set 2 (.int .i64 (n9 : Int))).set 3 (.int .i64 (n10 : Int))).set 4 (.int .i64 (n11 : Int))).set 5 (.int .i64 (n12 : Int))).set 6 (.int .i64 (n13 : Int))).set 7 (.int .i64 (-1))).set 8 (.int .i64 (n15 : Int))).set 9 (.bool op))
            have HF : Hid (Below w.heap.size w ((((((((((u5.setCell ⟨w.heap.size, 0, none⟩ (.int .u32 (ni : Int))).setCell ⟨w.heap.size, 1, none⟩ (.int .u32 (nv : Int))).setCell ⟨w.heap.size, 2, none⟩ (.int .i64 (n9 : Int))).setCell ⟨w.heap.size, 3, none⟩ (.int .i64 (n10 : Int))).setCell ⟨w.heap.size, 4, none⟩ (.int .i64 (n11 : Int))).setCell ⟨w.heap.size, 5, none⟩ (.int .i64 (n12 : Int))).setCell ⟨w.heap.size, 6, none⟩ (.int .i64 (n13 : Int))).setCell ⟨w.heap.size, 7, none⟩ (.int .i64 (-1))).setCell ⟨w.heap.size, 8, none⟩ (.int .i64 (n15 : Int))).setCell ⟨w.heap.size, 9, none⟩ (.bool op))) := ((((((((((HU.out.setCell (Nat.le_refl _) (.int .u32 (ni : Int))).setCell (Nat.le_refl _) (.int .u32 (nv : Int))).setCell (Nat.le_refl _) (.int .i64 (n9 : Int))).setCell (Nat.le_refl _) (.int .i64 (n10 : Int))).setCell (Nat.le_refl _) (.int .i64 (n11 : Int))).setCell (Nat.le_refl _) (.int .i64 (n12 : Int))).setCell (Nat.le_refl _) (.int .i64 (n13 : Int))).setCell (Nat.le_refl _) (.int .i64 (-1))).setCell (Nat.le_refl _) (.int .i64 (n15 : Int))).setCell (Nat.le_refl _) (.bool op))
            clear hHeld
            obtain ⟨z0, z1, z2, z3, z4, z5, z6, z7, z8, z9⟩ := BN.out.ten
            obtain ⟨r0, r1, r2, r3, r4, r5, r6, r7, r8, r9⟩ := BL.out.ten
            obtain ⟨s0, s1, s2, s3, s4, s5, s6, s7, s8, s9⟩ := BL.out.froz10
            have ltL := BL.out.lt
            have ltN := BN.out.lt
            go_wp2_with fail
            clear z0 z1 z2 z3 z4 z5 z6 z7 z8 z9 r0 r1 r2 r3 r4 r5 r6 r7 r8 r9 s0 s1 s2 s3 s4 s5 s6 s7 s8 s9
            obtain ⟨q0, q1, q2, q3, q4, q5, q6, q7, q8, q9⟩ := BF.out.ten
            exact bodyPost_ret (v := .tuple #[labV ⟨ni, nv, (n9 : Int), (n10 : Int), (n11 : Int), (n12 : Int), (n13 : Int), (-1), (n15 : Int), op⟩, .int .i64 0]) (by simp [results, Try.results17, go_sem, q0, q1, q2, q3, q4, q5, q6, q7, q8, q9]; rfl) rfl ⟨rfl, HF.out⟩
          · have hn : ((str K).toList == (str m).toList) = false := by rw [str_two HBB.out HB.out]; exact decide_eq_false hk
            rw [decide_eq_false hk, if_neg (by decide)] at hx
            injection hx with hx1 hx2
            subst hx1 hx2
            clear hk
            refine wp_region_noPanic ?_
            refine PX.wp_region_y (fun w' => Below wn.heap.size wn w') [] (by kernel_rfl) (Below.refl _ _).drew (fun hHeld => ?_)
            refine PX.wpAnyY_take (i := 0) (oi := ?_) (v := ?_) ?_ (by kernel_rfl) (by kernel_rfl) (by kernel_rfl) (by kernel_rfl) (by kernel_rfl) (fun _ _ _ h => h) (Or.inl ⟨?_, ?_⟩) (by assumption) ?_
            rotate_left 2
            · simp only [List.getElem?_toArray, List.getElem?_cons_succ, List.getElem?_cons_zero]; rfl
            · rfl
            · intro w hSw; (try dsimp only at hSw); have hC := fun (b o : Nat) (h : b < wn.heap.size) => Below.cell hSw (p := ⟨b, o, none⟩) h; go_simp <;> with_reducible rfl
            (try simp only [Act.put, List.setIfInBounds_toArray, List.set_cons_zero, List.set_cons_succ])
            refine PX.wpAnyY_one (i := 1) (o := ?_) (by kernel_rfl) ?_ (fun Kq hKq => ?_)
            rotate_left
            · simp only [List.getElem?_toArray, List.getElem?_cons_succ, List.getElem?_cons_zero]; rfl
            go_simp
            (with_reducible refine (CM.out _).mono ?_)
            rintro e u1 ⟨rfl, bq⟩
            have H1 := Lib.hid (thence hHeld bq (Nat.le_refl _))
            clear bq
            go_wp2_with fail
            refine hKq.out _ _ (H1.out) (fun hHeld => ?_)
            clear hKq Kq
            (try simp only [Act.put, List.setIfInBounds_toArray, List.set_cons_zero, List.set_cons_succ])
            refine PX.wpAnyY_one (i := 2) (o := ?_) (by kernel_rfl) ?_ (fun Kq hKq => ?_)
            rotate_left
            · simp only [List.getElem?_toArray, List.getElem?_cons_succ, List.getElem?_cons_zero]; rfl
            go_simp
            refine hKq.out _ _ (hHeld) (fun hHeld => ?_)
            clear hKq Kq
            (try simp only [Act.put, List.setIfInBounds_toArray, List.set_cons_zero, List.set_cons_succ])
            refine PX.wpAnyY_one (i := 3) (o := ?_) (by kernel_rfl) ?_ (fun Kq hKq => ?_)
            rotate_left
            · simp only [List.getElem?_toArray, List.getElem?_cons_succ, List.getElem?_cons_zero]; rfl
            go_simp
            refine hKq.out _ _ (hHeld) (fun hHeld => ?_)
            clear hKq Kq
            (try simp only [Act.put, List.setIfInBounds_toArray, List.set_cons_zero, List.set_cons_succ])
            refine PX.wpAnyY_take (i := 4) (oi := ?_) (v := ?_) ?_ (by kernel_rfl) (by kernel_rfl) (by kernel_rfl) (by kernel_rfl) (by kernel_rfl) (fun _ _ _ h => h) (Or.inl ⟨?_, ?_⟩) (by assumption) ?_
            rotate_left 2
            · simp only [List.getElem?_toArray, List.getElem?_cons_succ, List.getElem?_cons_zero]; rfl
            · rfl
            · intro w hSw; (try dsimp only at hSw); have hC := fun (b o : Nat) (h : b < wn.heap.size) => Below.cell hSw (p := ⟨b, o, none⟩) h; go_simp <;> with_reducible rfl
            (try simp only [Act.put, List.setIfInBounds_toArray, List.set_cons_zero, List.set_cons_succ])
            refine PX.wpAnyY_take (i := 7) (oi := ?_) (v := ?_) ?_ (by kernel_rfl) (by kernel_rfl) (by kernel_rfl) (by kernel_rfl) (by kernel_rfl) (fun _ _ _ h => h) (Or.inl ⟨?_, ?_⟩) (by assumption) ?_
            rotate_left 2
            · simp only [List.getElem?_toArray, List.getElem?_cons_succ, List.getElem?_cons_zero]; rfl
            · rfl
            · intro w hSw; (try dsimp only at hSw); go_simp <;> with_reducible rfl
            (try simp only [Act.put, List.setIfInBounds_toArray, List.set_cons_zero, List.set_cons_succ])
            refine PX.wpAnyY_take (i := 8) (oi := ?_) (v := ?_) ?_ (by kernel_rfl) (by kernel_rfl) (by kernel_rfl) (by kernel_rfl) (by kernel_rfl) (fun _ _ _ h => h) (Or.inl ⟨?_, ?_⟩) (by assumption) ?_
            rotate_left 2
            · simp only [List.getElem?_toArray, List.getElem?_cons_succ, List.getElem?_cons_zero]; rfl
            · rfl
            · intro w hSw; (try dsimp only at hSw); have T8 := text_is w _ _ _ _ (RN.out.below (hSw.mono (HN.out.size))); go_simp <;> with_reducible rfl
            (try simp only [Act.put, List.setIfInBounds_toArray, List.set_cons_zero, List.set_cons_succ])
            refine PX.wpAnyY_one (i := 5) (o := ?_) (by kernel_rfl) ?_ (fun Kq hKq => ?_)
            rotate_left
            · simp only [List.getElem?_toArray, List.getElem?_cons_succ, List.getElem?_cons_zero]; rfl
            go_simp
            (with_reducible refine (CB.out _).mono ?_)
            rintro e u5 ⟨g5, rfl, hg5, hb5, bq⟩
            have H5 := Lib.hid (thence hHeld bq (Nat.le_refl _))
            have T5 := text_is u5 _ _ _ _ (hb5.rd HBL.out HBB.out)
            clear bq
            go_wp2_with fail
            refine hKq.out _ _ (H5.out) (fun hHeld => ?_)
            clear hKq Kq
            (try simp only [Act.put, List.setIfInBounds_toArray, List.set_cons_zero, List.set_cons_succ])
            refine PX.wpAnyY_one (i := 6) (o := ?_) (by kernel_rfl) ?_ (fun Kq hKq => ?_)
            rotate_left
            · simp only [List.getElem?_toArray, List.getElem?_cons_succ, List.getElem?_cons_zero]; rfl
            go_simp
            refine hKq.out _ _ (hHeld) (fun hHeld => ?_)
            clear hKq Kq
            (try simp only [Act.put, List.setIfInBounds_toArray, List.set_cons_zero, List.set_cons_succ])
            refine PX.wpAnyY_one (i := 9) (o := ?_) (by kernel_rfl) ?_ (fun Kq hKq => ?_)
            rotate_left
            · simp only [List.getElem?_toArray, List.getElem?_cons_succ, List.getElem?_cons_zero]; rfl
            go_simp
            refine hKq.out _ _ (hHeld) (fun hHeld => ?_)
            clear hKq Kq
            (try simp only [Act.put, List.setIfInBounds_toArray, List.set_cons_zero, List.set_cons_succ])
            refine PX.wpAnyY_one (i := 10) (o := ?_) (by kernel_rfl) ?_ (fun Kq hKq => ?_)
            rotate_left
            · simp only [List.getElem?_toArray, List.getElem?_cons_succ, List.getElem?_cons_zero]; rfl
            go_simp
            refine hKq.out _ _ (hHeld) (fun hHeld => ?_)
            clear hKq Kq
            (try simp only [Act.put, List.setIfInBounds_toArray, List.set_cons_zero, List.set_cons_succ])
            refine PX.wpAnyY_done (by kernel_rfl) ?_ _
            refine NoPanic.normal ?_
            replace BL := Lib.hid (BL.out.here H5.out)
            replace BN := Lib.hid (BN.out.here H5.out)
            have HU := Lib.hid (hgn.out.trans (H5.out.mono hgn.out.size))
            clear ltL ltN
            have BF : Hid (Bx ((((((((((u5.setCell ⟨w.heap.size, 0, none⟩ (.int .u32 0)).setCell ⟨w.heap.size, 1, none⟩ (.int .u32 0)).setCell ⟨w.heap.size, 2, none⟩ (.int .i64 0)).setCell ⟨w.heap.size, 3, none⟩ (.int .i64 0)).setCell ⟨w.heap.size, 4, none⟩ (.int .i64 0)).setCell ⟨w.heap.size, 5, none⟩ (.int .i64 0)).setCell ⟨w.heap.size, 6, none⟩ (.int .i64 0)).setCell ⟨w.heap.size, 7, none⟩ (.int .i64 0)).setCell ⟨w.heap.size, 8, none⟩ (.int .i64 0)).setCell ⟨w.heap.size, 9, none⟩ (.bool false)) w.heap.size [.int .u32 0, .int .u32 0, .int .i64 0, .int .i64 0, .int .i64 0, .int .i64 0, .int .i64 0, .int .i64 0, .int .i64 0, .bool false]) := ((((((((((BL.out.set 0 (.int .u32 0)).set 1 (.int .u32 0)).set 2 (.int .i64 0)).set 3 (.int .i64 0)).set 4 (.int .i64 0)).set 5 (.int .i64 0)).set 6 (.int .i64 0)).set 7 (.int .i64 0)).set 8 (.int .i64 0)).set 9 (.bool false))
            have HF : Hid (Below w.heap.size w ((((((((((u5.setCell ⟨w.heap.size, 0, none⟩ (.int .u32 0)).setCell ⟨w.heap.size, 1, none⟩ (.int .u32 0)).setCell ⟨w.heap.size, 2, none⟩ (.int .i64 0)).setCell ⟨w.heap.size, 3, none⟩ (.int .i64 0)).setCell ⟨w.heap.size, 4, none⟩ (.int .i64 0)).setCell ⟨w.heap.size, 5, none⟩ (.int .i64 0)).setCell ⟨w.heap.size, 6, none⟩ (.int .i64 0)).setCell ⟨w.heap.size, 7, none⟩ (.int .i64 0)).setCell ⟨w.heap.size, 8, none⟩ (.int .i64 0)).setCell ⟨w.heap.size, 9, none⟩ (.bool false))) := ((((((((((HU.out.setCell (Nat.le_refl _) (.int .u32 0)).setCell (Nat.le_refl _) (.int .u32 0)).setCell (Nat.le_refl _) (.int .i64 0)).setCell (Nat.le_refl _) (.int .i64 0)).setCell (Nat.le_refl _) (.int .i64 0)).setCell (Nat.le_refl _) (.int .i64 0)).setCell (Nat.le_refl _) (.int .i64 0)).setCell (Nat.le_refl _) (.int .i64 0)).setCell (Nat.le_refl _) (.int .i64 0)).setCell (Nat.le_refl _) (.bool false))
            clear hHeld
            obtain ⟨z0, z1, z2, z3, z4, z5, z6, z7, z8, z9⟩ := BN.out.ten
            obtain ⟨r0, r1, r2, r3, r4, r5, r6, r7, r8, r9⟩ := BL.out.ten
            obtain ⟨s0, s1, s2, s3, s4, s5, s6, s7, s8, s9⟩ := BL.out.froz10
            have ltL := BL.out.lt
            have ltN := BN.out.lt
            go_wp2_with fail
            clear z0 z1 z2 z3 z4 z5 z6 z7 z8 z9 r0 r1 r2 r3 r4 r5 r6 r7 r8 r9 s0 s1 s2 s3 s4 s5 s6 s7 s8 s9
            obtain ⟨q0, q1, q2, q3, q4, q5, q6, q7, q8, q9⟩ := BF.out.ten
            exact bodyPost_ret (v := .tuple #[labV Lab.zero, .int .i64 90]) (by simp [results, Try.results17, go_sem, q0, q1, q2, q3, q4, q5, q6, q7, q8, q9]; rfl) rfl ⟨rfl, HF.out⟩
      · have e14 : (((n14 : Nat) : Int) == 255) = false := by simp; omega
        rw [if_neg h14] at HP
        clear h14
        have BN := BM
        have HN := HM
        go_wp2_with fail
        clear z0 z1 z2 z3 z4 z5 z6 z7 z8 z9 y0 y1 y2 y3 y4 y5 y6 y7 y8 y9 ltN f14' BM HM
        generalize wm = wn at *
        have BL := Lib.hid (BR.out.here HN.out)
        have RN := Lib.hid (R1.out.below HN.out)
        have hgn : Hid (Below w.heap.size w wn) := B0.out.trans ((thence B1.out HN.out (Nat.le_refl _)).mono B0.out.size)
        have CM := Lib.hid (refLMay_any ni nv (n9 : Int) (n10 : Int) (n11 : Int) (n12 : Int) (n13 : Int) (n14 : Int) (n15 : Int) op)
        have ltL := BL.out.lt
        have ltN := BN.out.lt
        obtain ⟨z0, z1, z2, z3, z4, z5, z6, z7, z8, z9⟩ := BN.out.ten
        cases hm : Lab.may ⟨ni, nv, (n9 : Int), (n10 : Int), (n11 : Int), (n12 : Int), (n13 : Int), (n14 : Int), (n15 : Int), op⟩ with
        | false =>
          rw [hm] at CM
          have hgd : LB.good m = false := by unfold LB.good; rw [HP.out, hm]; rfl
          have hx := HX.out
          rw [hgd, if_neg (by decide)] at hx
          injection hx with hx1 hx2
          subst hx1 hx2
          clear hm hgd HX
          refine wp_region_noPanic ?_
          refine PX.wp_region_y (fun w' => Below wn.heap.size wn w') [] (by kernel_rfl) (Below.refl _ _).drew (fun hHeld => ?_)
          refine PX.wpAnyY_take (i := 0) (oi := ?_) (v := ?_) ?_ (by kernel_rfl) (by kernel_rfl) (by kernel_rfl) (by kernel_rfl) (by kernel_rfl) (fun _ _ _ h => h) (Or.inl ⟨?_, ?_⟩) (by assumption) ?_
          rotate_left 2
          · simp only [List.getElem?_toArray, List.getElem?_cons_succ, List.getElem?_cons_zero]; rfl
          · rfl
          · intro w hSw; (try dsimp only at hSw); have hC := fun (b o : Nat) (h : b < wn.heap.size) => Below.cell hSw (p := ⟨b, o, none⟩) h; go_simp <;> with_reducible rfl
          (try simp only [Act.put, List.setIfInBounds_toArray, List.set_cons_zero, List.set_cons_succ])
          refine PX.wpAnyY_one (i := 1) (o := ?_) (by kernel_rfl) ?_ (fun Kq hKq => ?_)
          rotate_left
          · simp only [List.getElem?_toArray, List.getElem?_cons_succ, List.getElem?_cons_zero]; rfl
          go_simp
          (with_reducible refine (CM.out _).mono ?_)
          rintro e u1 ⟨rfl, bq⟩
          have H1 := Lib.hid (thence hHeld bq (Nat.le_refl _))
          clear bq
          go_wp2_with fail
          refine hKq.out _ _ (H1.out) (fun hHeld => ?_)
          clear hKq Kq
          (try simp only [Act.put, List.setIfInBounds_toArray, List.set_cons_zero, List.set_cons_succ])
          refine PX.wpAnyY_one (i := 2) (o := ?_) (by kernel_rfl) ?_ (fun Kq hKq => ?_)
          rotate_left
          · simp only [List.getElem?_toArray, List.getElem?_cons_succ, List.getElem?_cons_zero]; rfl
          go_simp
          refine hKq.out _ _ (hHeld) (fun hHeld => ?_)
          clear hKq Kq
          (try simp only [Act.put, List.setIfInBounds_toArray, List.set_cons_zero, List.set_cons_succ])
          refine PX.wpAnyY_one (i := 3) (o := ?_) (by kernel_rfl) ?_ (fun Kq hKq => ?_)
          rotate_left
          · simp only [List.getElem?_toArray, List.getElem?_cons_succ, List.getElem?_cons_zero]; rfl
          go_simp
          refine hKq.out _ _ (hHeld) (fun hHeld => ?_)
          clear hKq Kq
          (try simp only [Act.put, List.setIfInBounds_toArray, List.set_cons_zero, List.set_cons_succ])
          refine PX.wpAnyY_take (i := 4) (oi := ?_) (v := undef) ?_ (by kernel_rfl) (by kernel_rfl) (by kernel_rfl) (by kernel_rfl) (by kernel_rfl) (fun _ _ _ h => h) (Or.inr ⟨?_, rfl⟩) (by assumption) ?_
          rotate_left
          · simp only [List.getElem?_toArray, List.getElem?_cons_succ, List.getElem?_cons_zero]; rfl
          · rfl
          (try simp only [Act.put, List.setIfInBounds_toArray, List.set_cons_zero, List.set_cons_succ])
          refine PX.wpAnyY_take (i := 5) (oi := ?_) (v := undef) ?_ (by kernel_rfl) (by kernel_rfl) (by kernel_rfl) (by kernel_rfl) (by kernel_rfl) (fun _ _ _ h => h) (Or.inr ⟨?_, rfl⟩) (by assumption) ?_
          rotate_left
          · simp only [List.getElem?_toArray, List.getElem?_cons_succ, List.getElem?_cons_zero]; rfl
          · rfl
          (try simp only [Act.put, List.setIfInBounds_toArray, List.set_cons_zero, List.set_cons_succ])
          refine PX.wpAnyY_take (i := 6) (oi := ?_) (v := undef) ?_ (by kernel_rfl) (by kernel_rfl) (by kernel_rfl) (by kernel_rfl) (by kernel_rfl) (fun _ _ _ h => h) (Or.inr ⟨?_, rfl⟩) (by assumption) ?_
          rotate_left
          · simp only [List.getElem?_toArray, List.getElem?_cons_succ, List.getElem?_cons_zero]; rfl
          · rfl
          (try simp only [Act.put, List.setIfInBounds_toArray, List.set_cons_zero, List.set_cons_succ])
          refine PX.wpAnyY_one (i := 7) (o := ?_) (by kernel_rfl) ?_ (fun Kq hKq => ?_)
          rotate_left
          · simp only [List.getElem?_toArray, List.getElem?_cons_succ, List.getElem?_cons_zero]; rfl
          go_simp
          refine hKq.out _ _ (hHeld) (fun hHeld => ?_)
          clear hKq Kq
          (try simp only [Act.put, List.setIfInBounds_toArray, List.set_cons_zero, List.set_cons_succ])
          refine PX.wpAnyY_one (i := 8) (o := ?_) (by kernel_rfl) ?_ (fun Kq hKq => ?_)
          rotate_left
          · simp only [List.getElem?_toArray, List.getElem?_cons_succ, List.getElem?_cons_zero]; rfl
          go_simp
          refine hKq.out _ _ (hHeld) (fun hHeld => ?_)
          clear hKq Kq
          (try simp only [Act.put, List.setIfInBounds_toArray, List.set_cons_zero, List.set_cons_succ])
          refine PX.wpAnyY_one (i := 9) (o := ?_) (by kernel_rfl) ?_ (fun Kq hKq => ?_)
          rotate_left
          · simp only [List.getElem?_toArray, List.getElem?_cons_succ, List.getElem?_cons_zero]; rfl
          go_simp
          refine hKq.out _ _ (hHeld) (fun hHeld => ?_)
          clear hKq Kq
          (try simp only [Act.put, List.setIfInBounds_toArray, List.set_cons_zero, List.set_cons_succ])
          refine PX.wpAnyY_one (i := 10) (o := ?_) (by kernel_rfl) ?_ (fun Kq hKq => ?_)
          rotate_left
          · simp only [List.getElem?_toArray, List.getElem?_cons_succ, List.getElem?_cons_zero]; rfl
          go_simp
          refine hKq.out _ _ (hHeld) (fun hHeld => ?_)
          clear hKq Kq
          (try simp only [Act.put, List.setIfInBounds_toArray, List.set_cons_zero, List.set_cons_succ])
          refine PX.wpAnyY_done (by kernel_rfl) ?_ _
          refine NoPanic.normal ?_
          replace BL := Lib.hid (BL.out.here H1.out)
          replace BN := Lib.hid (BN.out.here H1.out)
          have HU := Lib.hid (hgn.out.trans (H1.out.mono hgn.out.size))
          clear ltL ltN
          have BF : Hid (Bx ((((((((((u1.setCell ⟨w.heap.size, 0, none⟩ (.int .u32 0)).setCell ⟨w.heap.size, 1, none⟩ (.int .u32 0)).setCell ⟨w.heap.size, 2, none⟩ (.int .i64 0)).setCell ⟨w.heap.size, 3, none⟩ (.int .i64 0)).setCell ⟨w.heap.size, 4, none⟩ (.int .i64 0)).setCell ⟨w.heap.size, 5, none⟩ (.int .i64 0)).setCell ⟨w.heap.size, 6, none⟩ (.int .i64 0)).setCell ⟨w.heap.size, 7, none⟩ (.int .i64 0)).setCell ⟨w.heap.size, 8, none⟩ (.int .i64 0)).setCell ⟨w.heap.size, 9, none⟩ (.bool false)) w.heap.size [.int .u32 0, .int .u32 0, .int .i64 0, .int .i64 0, .int .i64 0, .int .i64 0, .int .i64 0, .int .i64 0, .int .i64 0, .bool false]) := ((((((((((BL.out.set 0 (.int .u32 0)).set 1 (.int .u32 0)).set 2 (.int .i64 0)).set 3 (.int .i64 0)).set 4 (.int .i64 0)).set 5 (.int .i64 0)).set 6 (.int .i64 0)).set 7 (.int .i64 0)).set 8 (.int .i64 0)).set 9 (.bool false))
          have HF : Hid (Below w.heap.size w ((((((((((u1.setCell ⟨w.heap.size, 0, none⟩ (.int .u32 0)).setCell ⟨w.heap.size, 1, none⟩ (.int .u32 0)).setCell ⟨w.heap.size, 2, none⟩ (.int .i64 0)).setCell ⟨w.heap.size, 3, none⟩ (.int .i64 0)).setCell ⟨w.heap.size, 4, none⟩ (.int .i64 0)).setCell ⟨w.heap.size, 5, none⟩ (.int .i64 0)).setCell ⟨w.heap.size, 6, none⟩ (.int .i64 0)).setCell ⟨w.heap.size, 7, none⟩ (.int .i64 0)).setCell ⟨w.heap.size, 8, none⟩ (.int .i64 0)).setCell ⟨w.heap.size, 9, none⟩ (.bool false))) := ((((((((((HU.out.setCell (Nat.le_refl _) (.int .u32 0)).setCell (Nat.le_refl _) (.int .u32 0)).setCell (Nat.le_refl _) (.int .i64 0)).setCell (Nat.le_refl _) (.int .i64 0)).setCell (Nat.le_refl _) (.int .i64 0)).setCell (Nat.le_refl _) (.int .i64 0)).setCell (Nat.le_refl _) (.int .i64 0)).setCell (Nat.le_refl _) (.int .i64 0)).setCell (Nat.le_refl _) (.int .i64 0)).setCell (Nat.le_refl _) (.bool false))
          clear hHeld
          obtain ⟨z0, z1, z2, z3, z4, z5, z6, z7, z8, z9⟩ := BN.out.ten
          obtain ⟨r0, r1, r2, r3, r4, r5, r6, r7, r8, r9⟩ := BL.out.ten
          obtain ⟨s0, s1, s2, s3, s4, s5, s6, s7, s8, s9⟩ := BL.out.froz10
          have ltL := BL.out.lt
          have ltN := BN.out.lt
          go_wp2_with fail
          clear z0 z1 z2 z3 z4 z5 z6 z7 z8 z9 r0 r1 r2 r3 r4 r5 r6 r7 r8 r9 s0 s1 s2 s3 s4 s5 s6 s7 s8 s9
          obtain ⟨q0, q1, q2, q3, q4, q5, q6, q7, q8, q9⟩ := BF.out.ten
          exact bodyPost_ret (v := .tuple #[labV Lab.zero, .int .i64 90]) (by simp [results, Try.results17, go_sem, q0, q1, q2, q3, q4, q5, q6, q7, q8, q9]; rfl) rfl ⟨rfl, HF.out⟩
        | true =>
          have hmay := LB.may_iff.1 hm
          have CB := Lib.hid (fun w1 => refLBlock_any ni nv (n9 : Int) (n10 : Int) (n11 : Int) (n12 : Int) (n13 : Int) (n14 : Int) (n15 : Int) op w1 HI.out hmay)
          have HBB : Hid (Bytes (Lab.block ⟨ni, nv, (n9 : Int), (n10 : Int), (n11 : Int), (n12 : Int), (n13 : Int), (n14 : Int), (n15 : Int), op⟩)) := LB.block_bytes hmay HI.out
          have HBL : Hid ((Lab.block ⟨ni, nv, (n9 : Int), (n10 : Int), (n11 : Int), (n12 : Int), (n13 : Int), (n14 : Int), (n15 : Int), op⟩).length = 128) := LB.block_length _
          rw [hm] at CM
          have hgd : LB.good m = decide (Lab.block ⟨ni, nv, (n9 : Int), (n10 : Int), (n11 : Int), (n12 : Int), (n13 : Int), (n14 : Int), (n15 : Int), op⟩ = m) := by unfold LB.good; rw [HP.out, hm]; rfl
          have hx := HX.out
          rw [hgd, HP.out] at hx
          clear hm hgd hmay HX
          generalize hBK : Lab.block ⟨ni, nv, (n9 : Int), (n10 : Int), (n11 : Int), (n12 : Int), (n13 : Int), (n14 : Int), (n15 : Int), op⟩ = K at *
          clear hBK
          by_cases hk : K = m
          · have hn : ((str K).toList == (str m).toList) = true := by rw [str_two HBB.out HB.out]; exact decide_eq_true hk
            rw [decide_eq_true hk, if_pos rfl] at hx
            injection hx with hx1 hx2
            subst hx1 hx2
            clear hk
            refine wp_region_noPanic ?_
            refine PX.wp_region_y (fun w' => Below wn.heap.size wn w') [] (by kernel_rfl) (Below.refl _ _).drew (fun hHeld => ?_)
            refine PX.wpAnyY_take (i := 0) (oi := ?_) (v := ?_) ?_ (by kernel_rfl) (by kernel_rfl) (by kernel_rfl) (by kernel_rfl) (by kernel_rfl) (fun _ _ _ h => h) (Or.inl ⟨?_, ?_⟩) (by assumption) ?_
            rotate_left 2
            · simp only [List.getElem?_toArray, List.getElem?_cons_succ, List.getElem?_cons_zero]; rfl
            · rfl
            · intro w hSw; (try dsimp only at hSw); have hC := fun (b o : Nat) (h : b < wn.heap.size) => Below.cell hSw (p := ⟨b, o, none⟩) h; go_simp <;> with_reducible rfl
            (try simp only [Act.put, List.setIfInBounds_toArray, List.set_cons_zero, List.set_cons_succ])
            refine PX.wpAnyY_one (i := 1) (o := ?_) (by kernel_rfl) ?_ (fun Kq hKq => ?_)
            rotate_left
            · simp only [List.getElem?_toArray, List.getElem?_cons_succ, List.getElem?_cons_zero]; rfl
            go_simp
            (with_reducible refine (CM.out _).mono ?_)
            rintro e u1 ⟨rfl, bq⟩
            have H1 := Lib.hid (thence hHeld bq (Nat.le_refl _))
            clear bq
            go_wp2_with fail
            refine hKq.out _ _ (H1.out) (fun hHeld => ?_)
            clear hKq Kq
            (try simp only [Act.put, List.setIfInBounds_toArray, List.set_cons_zero, List.set_cons_succ])
            refine PX.wpAnyY_one (i := 2) (o := ?_) (by kernel_rfl) ?_ (fun Kq hKq => ?_)
            rotate_left
            · simp only [List.getElem?_toArray, List.getElem?_cons_succ, List.getElem?_cons_zero]; rfl
            go_simp
            refine hKq.out _ _ (hHeld) (fun hHeld => ?_)
            clear hKq Kq
            (try simp only [Act.put, List.setIfInBounds_toArray, List.set_cons_zero, List.set_cons_succ])
            refine PX.wpAnyY_one (i := 3) (o := ?_) (by kernel_rfl) ?_ (fun Kq hKq => ?_)
            rotate_left
            · simp only [List.getElem?_toArray, List.getElem?_cons_succ, List.getElem?_cons_zero]; rfl
            go_simp
            refine hKq.out _ _ (hHeld) (fun hHeld => ?_)
            clear hKq Kq
            (try simp only [Act.put, List.setIfInBounds_toArray, List.set_cons_zero, List.set_cons_succ])
            refine PX.wpAnyY_take (i := 4) (oi := ?_) (v := ?_) ?_ (by kernel_rfl) (by kernel_rfl) (by kernel_rfl) (by kernel_rfl) (by kernel_rfl) (fun _ _ _ h => h) (Or.inl ⟨?_, ?_⟩) (by assumption) ?_
            rotate_left 2
            · simp only [List.getElem?_toArray, List.getElem?_cons_succ, List.getElem?_cons_zero]; rfl
            · rfl
            · intro w hSw; (try dsimp only at hSw); have hC := fun (b o : Nat) (h : b < wn.heap.size) => Below.cell hSw (p := ⟨b, o, none⟩) h; go_simp <;> with_reducible rfl
            (try simp only [Act.put, List.setIfInBounds_toArray, List.set_cons_zero, List.set_cons_succ])
            refine PX.wpAnyY_take (i := 7) (oi := ?_) (v := ?_) ?_ (by kernel_rfl) (by kernel_rfl) (by kernel_rfl) (by kernel_rfl) (by kernel_rfl) (fun _ _ _ h => h) (Or.inl ⟨?_, ?_⟩) (by assumption) ?_
            rotate_left 2
            · simp only [List.getElem?_toArray, List.getElem?_cons_succ, List.getElem?_cons_zero]; rfl
            · rfl
            · intro w hSw; (try dsimp only at hSw); go_simp <;> with_reducible rfl
            (try simp only [Act.put, List.setIfInBounds_toArray, List.set_cons_zero, List.set_cons_succ])
            refine PX.wpAnyY_take (i := 8) (oi := ?_) (v := ?_) ?_ (by kernel_rfl) (by kernel_rfl) (by kernel_rfl) (by kernel_rfl) (by kernel_rfl) (fun _ _ _ h => h) (Or.inl ⟨?_, ?_⟩) (by assumption) ?_
            rotate_left 2
            · simp only [List.getElem?_toArray, List.getElem?_cons_succ, List.getElem?_cons_zero]; rfl
            · rfl
            · intro w hSw; (try dsimp only at hSw); have T8 := text_is w _ _ _ _ (RN.out.below (hSw.mono (HN.out.size))); go_simp <;> with_reducible rfl
            (try simp only [Act.put, List.setIfInBounds_toArray, List.set_cons_zero, List.set_cons_succ])
            refine PX.wpAnyY_one (i := 5) (o := ?_) (by kernel_rfl) ?_ (fun Kq hKq => ?_)
            rotate_left
            · simp only [List.getElem?_toArray, List.getElem?_cons_succ, List.getElem?_cons_zero]; rfl
            go_simp
            (with_reducible refine (CB.out _).mono ?_)
            rintro e u5 ⟨g5, rfl, hg5, hb5, bq⟩
            have H5 := Lib.hid (thence hHeld bq (Nat.le_refl _))
            have T5 := text_is u5 _ _ _ _ (hb5.rd HBL.out HBB.out)
            clear bq
            go_wp2_with fail
            refine hKq.out _ _ (H5.out) (fun hHeld => ?_)
            clear hKq Kq
            (try simp only [Act.put, List.setIfInBounds_toArray, List.set_cons_zero, List.set_cons_succ])
            refine PX.wpAnyY_one (i := 6) (o := ?_) (by kernel_rfl) ?_ (fun Kq hKq => ?_)
            rotate_left
            · simp only [List.getElem?_toArray, List.getElem?_cons_succ, List.getElem?_cons_zero]; rfl
            go_simp
            refine hKq.out _ _ (hHeld) (fun hHeld => ?_)
            clear hKq Kq
            (try simp only [Act.put, List.setIfInBounds_toArray, List.set_cons_zero, List.set_cons_succ])
            refine PX.wpAnyY_one (i := 9) (o := ?_) (by kernel_rfl) ?_ (fun Kq hKq => ?_)
            rotate_left
            · simp only [List.getElem?_toArray, List.getElem?_cons_succ, List.getElem?_cons_zero]; rfl
            go_simp
            refine hKq.out _ _ (hHeld) (fun hHeld => ?_)
            clear hKq Kq
            (try simp only [Act.put, List.setIfInBounds_toArray, List.set_cons_zero, List.set_cons_succ])
            refine PX.wpAnyY_one (i := 10) (o := ?_) (by kernel_rfl) ?_ (fun Kq hKq => ?_)
            rotate_left
            · simp only [List.getElem?_toArray, List.getElem?_cons_succ, List.getElem?_cons_zero]; rfl
            go_simp
            refine hKq.out _ _ (hHeld) (fun hHeld => ?_)
            clear hKq Kq
            (try simp only [Act.put, List.setIfInBounds_toArray, List.set_cons_zero, List.set_cons_succ])
            refine PX.wpAnyY_done (by kernel_rfl) ?_ _
            refine NoPanic.normal ?_
            replace BL := Lib.hid (BL.out.here H5.out)
            replace BN := Lib.hid (BN.out.here H5.out)
            have HU := Lib.hid (hgn.out.trans (H5.out.mono hgn.out.size))
            clear ltL ltN
            have BF : Hid (Bx ((((((((((u5.setCell ⟨w.heap.size, 0, none⟩ (.int .u32 (ni : Int))).setCell ⟨w.heap.size, 1, none⟩ (.int .u32 (nv : Int))).setCell ⟨w.heap.size, 2, none⟩ (.int .i64 (n9 : Int))).setCell ⟨w.heap.size, 3, none⟩ (.int .i64 (n10 : Int))).setCell ⟨w.heap.size, 4, none⟩ (.int .i64 (n11 : Int))).setCell ⟨w.heap.size, 5, none⟩ (.int .i64 (n12 : Int))).setCell ⟨w.heap.size, 6, none⟩ (.int .i64 (n13 : Int))).setCell ⟨w.heap.size, 7, none⟩ (.int .i64 (n14 : Int))).setCell ⟨w.heap.size, 8, none⟩ (.int .i64 (n15 : Int))).setCell ⟨w.heap.size, 9, none⟩ (.bool op)) w.heap.size [.int .u32 (ni : Int), .int .u32 (nv : Int), .int .i64 (n9 : Int), .int .i64 (n10 : Int), .int .i64 (n11 : Int), .int .i64 (n12 : Int), .int .i64 (n13 : Int), .int .i64 (n14 : Int), .int .i64 (n15 : Int), .bool op]) := ((((((((((BL.out.set 0 (.int .u32 (ni : Int))).set 1 (.int .u32 (nv : Int))).set 2 (.int .i64 (n9 : Int))).set 3 (.int .i64 (n10 : Int))).set 4 (.int .i64 (n11 : Int))).set 5 (.int .i64 (n12 : Int))).set 6 (.int .i64 (n13 : Int))).set 7 (.int .i64 (n14 : Int))).set 8 (.int .i64 (n15 : Int))).set 9 (.bool op))
            have HF : Hid (Below w.heap.size w ((((((((((u5.setCell ⟨w.heap.size, 0, none⟩ (.int .u32 (ni : Int))).setCell ⟨w.heap.size, 1, none⟩ (.int .u32 (nv : Int))).setCell ⟨w.heap.size, 2, none⟩ (.int .i64 (n9 : Int))).setCell ⟨w.heap.size, 3, none⟩ (.int .i64 (n10 : Int))).setCell ⟨w.heap.size, 4, none⟩ (.int .i64 (n11 : Int))).setCell ⟨w.heap.size, 5, none⟩ (.int .i64 (n12 : Int))).setCell ⟨w.heap.size, 6, none⟩ (.int .i64 (n13 : Int))).setCell ⟨w.heap.size, 7, none⟩ (.int .i64 (n14 : Int))).setCell ⟨w.heap.size, 8, none⟩ (.int .i64 (n15 : Int))).setCell ⟨w.heap.size, 9, none⟩ (.bool op))) := ((((((((((HU.out.setCell (Nat.le_refl _) (.int .u32 (ni : Int))).setCell (Nat.le_refl _) (.int .u32 (nv : Int))).setCell (Nat.le_refl _) (.int .i64 (n9 : Int))).setCell (Nat.le_refl _) (.int .i64 (n10 : Int))).setCell (Nat.le_refl _) (.int .i64 (n11 : Int))).setCell (Nat.le_refl _) (.int .i64 (n12 : Int))).setCell (Nat.le_refl _) (.int .i64 (n13 : Int))).setCell (Nat.le_refl _) (.int .i64 (n14 : Int))).setCell (Nat.le_refl _) (.int .i64 (n15 : Int))).setCell (Nat.le_refl _) (.bool op))
            clear hHeld
            obtain ⟨z0, z1, z2, z3, z4, z5, z6, z7, z8, z9⟩ := BN.out.ten
            obtain ⟨r0, r1, r2, r3, r4, r5, r6, r7, r8, r9⟩ := BL.out.ten
            obtain ⟨s0, s1, s2, s3, s4, s5, s6, s7, s8, s9⟩ := BL.out.froz10
            have ltL := BL.out.lt
            have ltN := BN.out.lt
            go_wp2_with fail
            clear z0 z1 z2 z3 z4 z5 z6 z7 z8 z9 r0 r1 r2 r3 r4 r5 r6 r7 r8 r9 s0 s1 s2 s3 s4 s5 s6 s7 s8 s9
            obtain ⟨q0, q1, q2, q3, q4, q5, q6, q7, q8, q9⟩ := BF.out.ten
            exact bodyPost_ret (v := .tuple #[labV ⟨ni, nv, (n9 : Int), (n10 : Int), (n11 : Int), (n12 : Int), (n13 : Int), (n14 : Int), (n15 : Int), op⟩, .int .i64 0]) (by simp [results, Try.results17, go_sem, q0, q1, q2, q3, q4, q5, q6, q7, q8, q9]; rfl) rfl ⟨rfl, HF.out⟩
          · have hn : ((str K).toList == (str m).toList) = false := by rw [str_two HBB.out HB.out]; exact decide_eq_false hk
            rw [decide_eq_false hk, if_neg (by decide)] at hx
            injection hx with hx1 hx2
            subst hx1 hx2
            clear hk
            refine wp_region_noPanic ?_
            refine PX.wp_region_y (fun w' => Below wn.heap.size wn w') [] (by kernel_rfl) (Below.refl _ _).drew (fun hHeld => ?_)
            refine PX.wpAnyY_take (i := 0) (oi := ?_) (v := ?_) ?_ (by kernel_rfl) (by kernel_rfl) (by kernel_rfl) (by kernel_rfl) (by kernel_rfl) (fun _ _ _ h => h) (Or.inl ⟨?_, ?_⟩) (by assumption) ?_
            rotate_left 2
            · simp only [List.getElem?_toArray, List.getElem?_cons_succ, List.getElem?_cons_zero]; rfl
            · rfl
            · intro w hSw; (try dsimp only at hSw); have hC := fun (b o : Nat) (h : b < wn.heap.size) => Below.cell hSw (p := ⟨b, o, none⟩) h; go_simp <;> with_reducible rfl
            (try simp only [Act.put, List.setIfInBounds_toArray, List.set_cons_zero, List.set_cons_succ])
            refine PX.wpAnyY_one (i := 1) (o := ?_) (by kernel_rfl) ?_ (fun Kq hKq => ?_)
            rotate_left
            · simp only [List.getElem?_toArray, List.getElem?_cons_succ, List.getElem?_cons_zero]; rfl
            go_simp
            (with_reducible refine (CM.out _).mono ?_)
            rintro e u1 ⟨rfl, bq⟩
            have H1 := Lib.hid (thence hHeld bq (Nat.le_refl _))
            clear bq
            go_wp2_with fail
            refine hKq.out _ _ (H1.out) (fun hHeld => ?_)
            clear hKq Kq
            (try simp only [Act.put, List.setIfInBounds_toArray, List.set_cons_zero, List.set_cons_succ])
            refine PX.wpAnyY_one (i := 2) (o := ?_) (by kernel_rfl) ?_ (fun Kq hKq => ?_)
            rotate_left
            · simp only [List.getElem?_toArray, List.getElem?_cons_succ, List.getElem?_cons_zero]; rfl
            go_simp
            refine hKq.out _ _ (hHeld) (fun hHeld => ?_)
            clear hKq Kq
            (try simp only [Act.put, List.setIfInBounds_toArray, List.set_cons_zero, List.set_cons_succ])
            refine PX.wpAnyY_one (i := 3) (o := ?_) (by kernel_rfl) ?_ (fun Kq hKq => ?_)
            rotate_left
            · simp only [List.getElem?_toArray, List.getElem?_cons_succ, List.getElem?_cons_zero]; rfl
            go_simp
            refine hKq.out _ _ (hHeld) (fun hHeld => ?_)
            clear hKq Kq
            (try simp only [Act.put, List.setIfInBounds_toArray, List.set_cons_zero, List.set_cons_succ])
            refine PX.wpAnyY_take (i := 4) (oi := ?_) (v := ?_) ?_ (by kernel_rfl) (by kernel_rfl) (by kernel_rfl) (by kernel_rfl) (by kernel_rfl) (fun _ _ _ h => h) (Or.inl ⟨?_, ?_⟩) (by assumption) ?_
            rotate_left 2
            · simp only [List.getElem?_toArray, List.getElem?_cons_succ, List.getElem?_cons_zero]; rfl
            · rfl
            · intro w hSw; (try dsimp only at hSw); have hC := fun (b o : Nat) (h : b < wn.heap.size) => Below.cell hSw (p := ⟨b, o, none⟩) h; go_simp <;> with_reducible rfl
            (try simp only [Act.put, List.setIfInBounds_toArray, List.set_cons_zero, List.set_cons_succ])
            refine PX.wpAnyY_take (i := 7) (oi := ?_) (v := ?_) ?_ (by kernel_rfl) (by kernel_rfl) (by kernel_rfl) (by kernel_rfl) (by kernel_rfl) (fun _ _ _ h => h) (Or.inl ⟨?_, ?_⟩) (by assumption) ?_
            rotate_left 2
            · simp only [List.getElem?_toArray, List.getElem?_cons_succ, List.getElem?_cons_zero]; rfl
            · rfl
            · intro w hSw; (try dsimp only at hSw); go_simp <;> with_reducible rfl
            (try simp only [Act.put, List.setIfInBounds_toArray, List.set_cons_zero, List.set_cons_succ])
            refine PX.wpAnyY_take (i := 8) (oi := ?_) (v := ?_) ?_ (by kernel_rfl) (by kernel_rfl) (by kernel_rfl) (by kernel_rfl) (by kernel_rfl) (fun _ _ _ h => h) (Or.inl ⟨?_, ?_⟩) (by assumption) ?_
            rotate_left 2
            · simp only [List.getElem?_toArray, List.getElem?_cons_succ, List.getElem?_cons_zero]; rfl
            · rfl
            · intro w hSw; (try dsimp only at hSw); have T8 := text_is w _ _ _ _ (RN.out.below (hSw.mono (HN.out.size))); go_simp <;> with_reducible rfl
            (try simp only [Act.put, List.setIfInBounds_toArray, List.set_cons_zero, List.set_cons_succ])
            refine PX.wpAnyY_one (i := 5) (o := ?_) (by kernel_rfl) ?_ (fun Kq hKq => ?_)
            rotate_left
            · simp only [List.getElem?_toArray, List.getElem?_cons_succ, List.getElem?_cons_zero]; rfl
            go_simp
            (with_reducible refine (CB.out _).mono ?_)
            rintro e u5 ⟨g5, rfl, hg5, hb5, bq⟩
            have H5 := Lib.hid (thence hHeld bq (Nat.le_refl _))
            have T5 := text_is u5 _ _ _ _ (hb5.rd HBL.out HBB.out)
            clear bq
            go_wp2_with fail
            refine hKq.out _ _ (H5.out) (fun hHeld => ?_)
            clear hKq Kq
            (try simp only [Act.put, List.setIfInBounds_toArray, List.set_cons_zero, List.set_cons_succ])
            refine PX.wpAnyY_one (i := 6) (o := ?_) (by kernel_rfl) ?_ (fun Kq hKq => ?_)
            rotate_left
            · simp only [List.getElem?_toArray, List.getElem?_cons_succ, List.getElem?_cons_zero]; rfl
            go_simp
            refine hKq.out _ _ (hHeld) (fun hHeld => ?_)
            clear hKq Kq
            (try simp only [Act.put, List.setIfInBounds_toArray, List.set_cons_zero, List.set_cons_succ])
            refine PX.wpAnyY_one (i := 9) (o := ?_) (by kernel_rfl) ?_ (fun Kq hKq => ?_)
            rotate_left
            · simp only [List.getElem?_toArray, List.getElem?_cons_succ, List.getElem?_cons_zero]; rfl
            go_simp
            refine hKq.out _ _ (hHeld) (fun hHeld => ?_)
            clear hKq Kq
            (try simp only [Act.put, List.setIfInBounds_toArray, List.set_cons_zero, List.set_cons_succ])
            refine PX.wpAnyY_one (i := 10) (o := ?_) (by kernel_rfl) ?_ (fun Kq hKq => ?_)
            rotate_left
            · simp only [List.getElem?_toArray, List.getElem?_cons_succ, List.getElem?_cons_zero]; rfl
            go_simp
            refine hKq.out _ _ (hHeld) (fun hHeld => ?_)
            clear hKq Kq
            (try simp only [Act.put, List.setIfInBounds_toArray, List.set_cons_zero, List.set_cons_succ])
            refine PX.wpAnyY_done (by kernel_rfl) ?_ _
            refine NoPanic.normal ?_
            replace BL := Lib.hid (BL.out.here H5.out)
            replace BN := Lib.hid (BN.out.here H5.out)
            have HU := Lib.hid (hgn.out.trans (H5.out.mono hgn.out.size))
            clear ltL ltN
            have BF : Hid (Bx ((((((((((u5.setCell ⟨w.heap.size, 0, none⟩ (.int .u32 0)).setCell ⟨w.heap.size, 1, none⟩ (.int .u32 0)).setCell ⟨w.heap.size, 2, none⟩ (.int .i64 0)).setCell ⟨w.heap.size, 3, none⟩ (.int .i64 0)).setCell ⟨w.heap.size, 4, none⟩ (.int .i64 0)).setCell ⟨w.heap.size, 5, none⟩ (.int .i64 0)).setCell ⟨w.heap.size, 6, none⟩ (.int .i64 0)).setCell ⟨w.heap.size, 7, none⟩ (.int .i64 0)).setCell ⟨w.heap.size, 8, none⟩ (.int .i64 0)).setCell ⟨w.heap.size, 9, none⟩ (.bool false)) w.heap.size [.int .u32 0, .int .u32 0, .int .i64 0, .int .i64 0, .int .i64 0, .int .i64 0, .int .i64 0, .int .i64 0, .int .i64 0, .bool false]) := ((((((((((BL.out.set 0 (.int .u32 0)).set 1 (.int .u32 0)).set 2 (.int .i64 0)).set 3 (.int .i64 0)).set 4 (.int .i64 0)).set 5 (.int .i64 0)).set 6 (.int .i64 0)).set 7 (.int .i64 0)).set 8 (.int .i64 0)).set 9 (.bool false))
            have HF : Hid (Below w.heap.size w ((((((((((u5.setCell ⟨w.heap.size, 0, none⟩ (.int .u32 0)).setCell ⟨w.heap.size, 1, none⟩ (.int .u32 0)).setCell ⟨w.heap.size, 2, none⟩ (.int .i64 0)).setCell ⟨w.heap.size, 3, none⟩ (.int .i64 0)).setCell ⟨w.heap.size, 4, none⟩ (.int .i64 0)).setCell ⟨w.heap.size, 5, none⟩ (.int .i64 0)).setCell ⟨w.heap.size, 6, none⟩ (.int .i64 0)).setCell ⟨w.heap.size, 7, none⟩ (.int .i64 0)).setCell ⟨w.heap.size, 8, none⟩ (.int .i64 0)).setCell ⟨w.heap.size, 9, none⟩ (.bool false))) := ((((((((((HU.out.setCell (Nat.le_refl _) (.int .u32 0)).setCell (Nat.le_refl _) (.int .u32 0)).setCell (Nat.le_refl _) (.int .i64 0)).setCell (Nat.le_refl _) (.int .i64 0)).setCell (Nat.le_refl _) (.int .i64 0)).setCell (Nat.le_refl _) (.int .i64 0)).setCell (Nat.le_refl _) (.int .i64 0)).setCell (Nat.le_refl _) (.int .i64 0)).setCell (Nat.le_refl _) (.int .i64 0)).setCell (Nat.le_refl _) (.bool false))
            clear hHeld
            obtain ⟨z0, z1, z2, z3, z4, z5, z6, z7, z8, z9⟩ := BN.out.ten
            obtain ⟨r0, r1, r2, r3, r4, r5, r6, r7, r8, r9⟩ := BL.out.ten
            obtain ⟨s0, s1, s2, s3, s4, s5, s6, s7, s8, s9⟩ := BL.out.froz10
            have ltL := BL.out.lt
            have ltN := BN.out.lt
            go_wp2_with fail
            clear z0 z1 z2 z3 z4 z5 z6 z7 z8 z9 r0 r1 r2 r3 r4 r5 r6 r7 r8 r9 s0 s1 s2 s3 s4 s5 s6 s7 s8 s9
            obtain ⟨q0, q1, q2, q3, q4, q5, q6, q7, q8, q9⟩ := BF.out.ten
            exact bodyPost_ret (v := .tuple #[labV Lab.zero, .int .i64 90]) (by simp [results, Try.results17, go_sem, q0, q1, q2, q3, q4, q5, q6, q7, q8, q9]; rfl) rfl ⟨rfl, HF.out⟩
  · go_simp
    have hl : Below W1.heap.size W1 (W1.alloc (.cells #[.int .u32 0, .int .u32 0, .int .i64 0, .int .i64 0, .int .i64 0, .int .i64 0, .int .i64 0, .int .i64 0, .int .i64 0, .bool false] 28)) := (Below.refl _ _).alloc (Nat.le_refl _) _
    have HA : Hid (Below W1.heap.size W1 (W1.alloc (.cells #[.int .u32 0, .int .u32 0, .int .i64 0, .int .i64 0, .int .i64 0, .int .i64 0, .int .i64 0, .int .i64 0, .int .i64 0, .bool false] 28)).drew) := (thence (Below.refl _ _) hl (Nat.le_refl _)).drew
    have BN : Hid (Bx (W1.alloc (.cells #[.int .u32 0, .int .u32 0, .int .i64 0, .int .i64 0, .int .i64 0, .int .i64 0, .int .i64 0, .int .i64 0, .int .i64 0, .bool false] 28)).drew W1.heap.size [.int .u32 0, .int .u32 0, .int .i64 0, .int .i64 0, .int .i64 0, .int .i64 0, .int .i64 0, .int .i64 0, .int .i64 0, .bool false]) := Bx.new W1 [.int .u32 0, .int .u32 0, .int .i64 0, .int .i64 0, .int .i64 0, .int .i64 0, .int .i64 0, .int .i64 0, .int .i64 0, .bool false] 28
    have hgb : Hid (W1.heap.size ≤ W1.heap.size) := Nat.le_refl _
    clear hl
    generalize (W1.alloc (.cells #[.int .u32 0, .int .u32 0, .int .i64 0, .int .i64 0, .int .i64 0, .int .i64 0, .int .i64 0, .int .i64 0, .int .i64 0, .bool false] 28)).drew = wa at *
    obtain ⟨gb, hG⟩ : ∃ gb, W1.heap.size = gb := ⟨_, rfl⟩
    rw [hG] at BN ⊢
    replace hgb : Hid (W1.heap.size ≤ gb) := hG ▸ hgb.out
    clear hG
    obtain ⟨z0, z1, z2, z3, z4, z5, z6, z7, z8, z9⟩ := BN.out.ten
    obtain ⟨y0, y1, y2, y3, y4, y5, y6, y7, y8, y9⟩ := BN.out.froz10
    have ltN := BN.out.lt
    refine hKq.out _ _ (HA.out) (fun hHeld => ?_)
    clear hKq Kq
    (try simp only [Act.put, List.setIfInBounds_toArray, List.set_cons_zero, List.set_cons_succ])
    refine PX.wpAnyY_one (i := 1) (o := ?_) (by kernel_rfl) ?_ (fun Kq hKq => ?_)
    rotate_left
    · simp only [List.getElem?_toArray, List.getElem?_cons_succ, List.getElem?_cons_zero]; rfl
    go_simp
    refine (CN1.out _ hHeld).mono ?_
    rintro e u1 ⟨rfl, bq⟩
    have H1 := Lib.hid (thence hHeld bq (Nat.le_refl _))
    replace BN := Lib.hid (BN.out.here bq)
    clear z0 z1 z2 z3 z4 z5 z6 z7 z8 z9 y0 y1 y2 y3 y4 y5 y6 y7 y8 y9 ltN
    obtain ⟨z0, z1, z2, z3, z4, z5, z6, z7, z8, z9⟩ := BN.out.ten
    obtain ⟨y0, y1, y2, y3, y4, y5, y6, y7, y8, y9⟩ := BN.out.froz10
    have ltN := BN.out.lt
    clear bq
    go_wp2_with fail
    refine hKq.out _ _ (H1.out) (fun hHeld => ?_)
    clear hKq Kq
    (try simp only [Act.put, List.setIfInBounds_toArray, List.set_cons_zero, List.set_cons_succ])
    refine PX.wpAnyY_one (i := 3) (o := ?_) (by kernel_rfl) ?_ (fun Kq hKq => ?_)
    rotate_left
    · simp only [List.getElem?_toArray, List.getElem?_cons_succ, List.getElem?_cons_zero]; rfl
    go_simp
    refine (CN5.out _ hHeld).mono ?_
    rintro e u3 ⟨rfl, bq⟩
    have H3 := Lib.hid (thence hHeld bq (Nat.le_refl _))
    replace BN := Lib.hid (BN.out.here bq)
    clear z0 z1 z2 z3 z4 z5 z6 z7 z8 z9 y0 y1 y2 y3 y4 y5 y6 y7 y8 y9 ltN
    obtain ⟨z0, z1, z2, z3, z4, z5, z6, z7, z8, z9⟩ := BN.out.ten
    obtain ⟨y0, y1, y2, y3, y4, y5, y6, y7, y8, y9⟩ := BN.out.froz10
    have ltN := BN.out.lt
    clear bq
    go_wp2_with fail
    refine hKq.out _ _ (H3.out) (fun hHeld => ?_)
    clear hKq Kq
    (try simp only [Act.put, List.setIfInBounds_toArray, List.set_cons_zero, List.set_cons_succ])
    refine PX.wpAnyY_one (i := 36) (o := ?_) (by kernel_rfl) ?_ (fun Kq hKq => ?_)
    rotate_left
    · simp only [List.getElem?_toArray, List.getElem?_cons_succ, List.getElem?_cons_zero]; rfl
    go_simp
    refine hKq.out _ _ (hHeld) (fun hHeld => ?_)
    clear hKq Kq
    (try simp only [Act.put, List.setIfInBounds_toArray, List.set_cons_zero, List.set_cons_succ])
    refine PX.wpAnyY_one (i := 38) (o := ?_) (by kernel_rfl) ?_ (fun Kq hKq => ?_)
    rotate_left
    · simp only [List.getElem?_toArray, List.getElem?_cons_succ, List.getElem?_cons_zero]; rfl
    go_simp
    have BM : Hid (Bx ((((((((((u3.setCell ⟨gb, 0, none⟩ (.int .u32 (ni : Int))).setCell ⟨gb, 1, none⟩ (.int .u32 (nv : Int))).setCell ⟨gb, 2, none⟩ (.int .i64 (n9 : Int))).setCell ⟨gb, 3, none⟩ (.int .i64 (n10 : Int))).setCell ⟨gb, 4, none⟩ (.int .i64 (n11 : Int))).setCell ⟨gb, 5, none⟩ (.int .i64 (n12 : Int))).setCell ⟨gb, 6, none⟩ (.int .i64 (n13 : Int))).setCell ⟨gb, 7, none⟩ (.int .i64 (n14 : Int))).setCell ⟨gb, 8, none⟩ (.int .i64 (n15 : Int))).setCell ⟨gb, 9, none⟩ (.bool op)) gb [.int .u32 (ni : Int), .int .u32 (nv : Int), .int .i64 (n9 : Int), .int .i64 (n10 : Int), .int .i64 (n11 : Int), .int .i64 (n12 : Int), .int .i64 (n13 : Int), .int .i64 (n14 : Int), .int .i64 (n15 : Int), .bool op]) := ((((((((((BN.out.set 0 (.int .u32 (ni : Int))).set 1 (.int .u32 (nv : Int))).set 2 (.int .i64 (n9 : Int))).set 3 (.int .i64 (n10 : Int))).set 4 (.int .i64 (n11 : Int))).set 5 (.int .i64 (n12 : Int))).set 6 (.int .i64 (n13 : Int))).set 7 (.int .i64 (n14 : Int))).set 8 (.int .i64 (n15 : Int))).set 9 (.bool op))
    have HM : Hid (Below W1.heap.size W1 ((((((((((u3.setCell ⟨gb, 0, none⟩ (.int .u32 (ni : Int))).setCell ⟨gb, 1, none⟩ (.int .u32 (nv : Int))).setCell ⟨gb, 2, none⟩ (.int .i64 (n9 : Int))).setCell ⟨gb, 3, none⟩ (.int .i64 (n10 : Int))).setCell ⟨gb, 4, none⟩ (.int .i64 (n11 : Int))).setCell ⟨gb, 5, none⟩ (.int .i64 (n12 : Int))).setCell ⟨gb, 6, none⟩ (.int .i64 (n13 : Int))).setCell ⟨gb, 7, none⟩ (.int .i64 (n14 : Int))).setCell ⟨gb, 8, none⟩ (.int .i64 (n15 : Int))).setCell ⟨gb, 9, none⟩ (.bool op))) := ((((((((((hHeld.setCell hgb.out (.int .u32 (ni : Int))).setCell hgb.out (.int .u32 (nv : Int))).setCell hgb.out (.int .i64 (n9 : Int))).setCell hgb.out (.int .i64 (n10 : Int))).setCell hgb.out (.int .i64 (n11 : Int))).setCell hgb.out (.int .i64 (n12 : Int))).setCell hgb.out (.int .i64 (n13 : Int))).setCell hgb.out (.int .i64 (n14 : Int))).setCell hgb.out (.int .i64 (n15 : Int))).setCell hgb.out (.bool op))
    clear BN z0 z1 z2 z3 z4 z5 z6 z7 z8 z9 y0 y1 y2 y3 y4 y5 y6 y7 y8 y9 ltN
    generalize ((((((((((u3.setCell ⟨gb, 0, none⟩ (.int .u32 (ni : Int))).setCell ⟨gb, 1, none⟩ (.int .u32 (nv : Int))).setCell ⟨gb, 2, none⟩ (.int .i64 (n9 : Int))).setCell ⟨gb, 3, none⟩ (.int .i64 (n10 : Int))).setCell ⟨gb, 4, none⟩ (.int .i64 (n11 : Int))).setCell ⟨gb, 5, none⟩ (.int .i64 (n12 : Int))).setCell ⟨gb, 6, none⟩ (.int .i64 (n13 : Int))).setCell ⟨gb, 7, none⟩ (.int .i64 (n14 : Int))).setCell ⟨gb, 8, none⟩ (.int .i64 (n15 : Int))).setCell ⟨gb, 9, none⟩ (.bool op)) = wm at *
    refine hKq.out _ _ (HM.out) (fun hHeld => ?_)
    clear hKq Kq
    (try simp only [Act.put, List.setIfInBounds_toArray, List.set_cons_zero, List.set_cons_succ])
    refine PX.wpAnyY_done (by kernel_rfl) ?_ _
    refine NoPanic.normal ?_
    clear hHeld
    have f14' : wm.cell? ⟨g, 14, none⟩ = some (.int .u8 (n14 : Int)) := (Below.cell HM.out (p := ⟨g, 14, none⟩) hgl).trans f14
    clear f9 f10 f11 f12 f13 f14 f15 f16
    obtain ⟨z0, z1, z2, z3, z4, z5, z6, z7, z8, z9⟩ := BM.out.ten
    obtain ⟨y0, y1, y2, y3, y4, y5, y6, y7, y8, y9⟩ := BM.out.froz10
    have ltN := BM.out.lt
    have ltG : g < wm.heap.size := Nat.lt_of_lt_of_le hgl HM.out.size
    by_cases h14 : n14 = 255
    · have e14 : (((n14 : Nat) : Int) == 255) = true := by simp [h14]
      rw [if_pos h14] at HP
      clear h14
      have BN : Hid (Bx (wm.setCell ⟨gb, 7, none⟩ (.int .i64 (-1))) gb [.int .u32 (ni : Int), .int .u32 (nv : Int), .int .i64 (n9 : Int), .int .i64 (n10 : Int), .int .i64 (n11 : Int), .int .i64 (n12 : Int), .int .i64 (n13 : Int), .int .i64 (-1), .int .i64 (n15 : Int), .bool op]) := BM.out.set 7 (.int .i64 (-1))
      have HN : Hid (Below W1.heap.size W1 (wm.setCell ⟨gb, 7, none⟩ (.int .i64 (-1)))) := HM.out.setCell hgb.out _
      go_wp2_with fail
      clear z0 z1 z2 z3 z4 z5 z6 z7 z8 z9 y0 y1 y2 y3 y4 y5 y6 y7 y8 y9 ltN f14' BM
      generalize (wm.setCell ⟨gb, 7, none⟩ (.int .i64 (-1))) = wn at *
      have BL := Lib.hid (BR.out.here HN.out)
      have RN := Lib.hid (R1.out.below HN.out)
      have hgn : Hid (Below w.heap.size w wn) := B0.out.trans ((thence B1.out HN.out (Nat.le_refl _)).mono B0.out.size)
      have CM := Lib.hid (refLMay_any ni nv (n9 : Int) (n10 : Int) (n11 : Int) (n12 : Int) (n13 : Int) (-1) (n15 : Int) op)
      have ltL := BL.out.lt
      have ltN := BN.out.lt
      obtain ⟨z0, z1, z2, z3, z4, z5, z6, z7, z8, z9⟩ := BN.out.ten
      cases hm : Lab.may ⟨ni, nv, (n9 : Int), (n10 : Int), (n11 : Int), (n12 : Int), (n13 : Int), (-1), (n15 : Int), op⟩ with
      | false =>
        rw [hm] at CM
        have hgd : LB.good m = false := by unfold LB.good; rw [HP.out, hm]; rfl
        have hx := HX.out
        rw [hgd, if_neg (by decide)] at hx
        injection hx with hx1 hx2
        subst hx1 hx2
        clear hm hgd HX
        refine wp_region_noPanic ?_
        refine PX.wp_region_y (fun w' => Below wn.heap.size wn w') [] (by kernel_rfl) (Below.refl _ _).drew (fun hHeld => ?_)
        refine PX.wpAnyY_take (i := 0) (oi := ?_) (v := ?_) ?_ (by kernel_rfl) (by kernel_rfl) (by kernel_rfl) (by kernel_rfl) (by kernel_rfl) (fun _ _ _ h => h) (Or.inl ⟨?_, ?_⟩) (by assumption) ?_
        rotate_left 2
        · simp only [List.getElem?_toArray, List.getElem?_cons_succ, List.getElem?_cons_zero]; rfl
        · rfl
        · intro w hSw; (try dsimp only at hSw); have hC := fun (b o : Nat) (h : b < wn.heap.size) => Below.cell hSw (p := ⟨b, o, none⟩) h; go_simp <;> with_reducible rfl
        (try simp only [Act.put, List.setIfInBounds_toArray, List.set_cons_zero, List.set_cons_succ])
        refine PX.wpAnyY_one (i := 1) (o := ?_) (by kernel_rfl) ?_ (fun Kq hKq => ?_)
        rotate_left
        · simp only [List.getElem?_toArray, List.getElem?_cons_succ, List.getElem?_cons_zero]; rfl
        go_simp
        (with_reducible refine (CM.out _).mono ?_)
        rintro e u1 ⟨rfl, bq⟩
        have H1 := Lib.hid (thence hHeld bq (Nat.le_refl _))
        clear bq
        go_wp2_with fail
        refine hKq.out _ _ (H1.out) (fun hHeld => ?_)
        clear hKq Kq
        (try simp only [Act.put, List.setIfInBounds_toArray, List.set_cons_zero, List.set_cons_succ])
        refine PX.wpAnyY_one (i := 2) (o := ?_) (by kernel_rfl) ?_ (fun Kq hKq => ?_)
        rotate_left
        · simp only [List.getElem?_toArray, List.getElem?_cons_succ, List.getElem?_cons_zero]; rfl
        go_simp
        refine hKq.out _ _ (hHeld) (fun hHeld => ?_)
        clear hKq Kq
        (try simp only [Act.put, List.setIfInBounds_toArray, List.set_cons_zero, List.set_cons_succ])
        refine PX.wpAnyY_one (i := 3) (o := ?_) (by kernel_rfl) ?_ (fun Kq hKq => ?_)
        rotate_left
        · simp only [List.getElem?_toArray, List.getElem?_cons_succ, List.getElem?_cons_zero]; rfl
        go_simp
        refine hKq.out _ _ (hHeld) (fun hHeld => ?_)
        clear hKq Kq
        (try simp only [Act.put, List.setIfInBounds_toArray, List.set_cons_zero, List.set_cons_succ])
        refine PX.wpAnyY_take (i := 4) (oi := ?_) (v := undef) ?_ (by kernel_rfl) (by kernel_rfl) (by kernel_rfl) (by kernel_rfl) (by kernel_rfl) (fun _ _ _ h => h) (Or.inr ⟨?_, rfl⟩) (by assumption) ?_
        rotate_left
        · simp only [List.getElem?_toArray, List.getElem?_cons_succ, List.getElem?_cons_zero]; rfl
        · rfl
        (try simp only [Act.put, List.setIfInBounds_toArray, List.set_cons_zero, List.set_cons_succ])
        refine PX.wpAnyY_take (i := 5) (oi := ?_) (v := undef) ?_ (by kernel_rfl) (by kernel_rfl) (by kernel_rfl) (by kernel_rfl) (by kernel_rfl) (fun _ _ _ h => h) (Or.inr ⟨?_, rfl⟩) (by assumption) ?_
        rotate_left
        · simp only [List.getElem?_toArray, List.getElem?_cons_succ, List.getElem?_cons_zero]; rfl
        · rfl
        (try simp only [Act.put, List.setIfInBounds_toArray, List.set_cons_zero, List.set_cons_succ])
        refine PX.wpAnyY_take (i := 6) (oi := ?_) (v := undef) ?_ (by kernel_rfl) (by kernel_rfl) (by kernel_rfl) (by kernel_rfl) (by kernel_rfl) (fun _ _ _ h => h) (Or.inr ⟨?_, rfl⟩) (by assumption) ?_
        rotate_left
        · simp only [List.getElem?_toArray, List.getElem?_cons_succ, List.getElem?_cons_zero]; rfl
        · rfl
        (try simp only [Act.put, List.setIfInBounds_toArray, List.set_cons_zero, List.set_cons_succ])
        refine PX.wpAnyY_one (i := 7) (o := ?_) (by kernel_rfl) ?_ (fun Kq hKq => ?_)
        rotate_left
        · simp only [List.getElem?_toArray, List.getElem?_cons_succ, List.getElem?_cons_zero]; rfl
        go_simp
        refine hKq.out _ _ (hHeld) (fun hHeld => ?_)
        clear hKq Kq
        (try simp only [Act.put, List.setIfInBounds_toArray, List.set_cons_zero, List.set_cons_succ])
        refine PX.wpAnyY_one (i := 8) (o := ?_) (by kernel_rfl) ?_ (fun Kq hKq => ?_)
        rotate_left
        · simp only [List.getElem?_toArray, List.getElem?_cons_succ, List.getElem?_cons_zero]; rfl
        go_simp
        refine hKq.out _ _ (hHeld) (fun hHeld => ?_)
        clear hKq Kq
        (try simp only [Act.put, List.setIfInBounds_toArray, List.set_cons_zero, List.set_cons_succ])
        refine PX.wpAnyY_one (i := 9) (o := ?_) (by kernel_rfl) ?_ (fun Kq hKq => ?_)
        rotate_left
        · simp only [List.getElem?_toArray, List.getElem?_cons_succ, List.getElem?_cons_zero]; rfl
        go_simp
        refine hKq.out _ _ (hHeld) (fun hHeld => ?_)
        clear hKq Kq
        (try simp only [Act.put, List.setIfInBounds_toArray, List.set_cons_zero, List.set_cons_succ])
        refine PX.wpAnyY_one (i := 10) (o := ?_) (by kernel_rfl) ?_ (fun Kq hKq => ?_)
        rotate_left
        · simp only [List.getElem?_toArray, List.getElem?_cons_succ, List.getElem?_cons_zero]; rfl
        go_simp
        refine hKq.out _ _ (hHeld) (fun hHeld => ?_)
        clear hKq Kq
        (try simp only [Act.put, List.setIfInBounds_toArray, List.set_cons_zero, List.set_cons_succ])
        refine PX.wpAnyY_done (by kernel_rfl) ?_ _
        refine NoPanic.normal ?_
        replace BL := Lib.hid (BL.out.here H1.out)
        replace BN := Lib.hid (BN.out.here H1.out)
        have HU := Lib.hid (hgn.out.trans (H1.out.mono hgn.out.size))
        clear ltL ltN
        have BF : Hid (Bx ((((((((((u1.setCell ⟨w.heap.size, 0, none⟩ (.int .u32 0)).setCell ⟨w.heap.size, 1, none⟩ (.int .u32 0)).setCell ⟨w.heap.size, 2, none⟩ (.int .i64 0)).setCell ⟨w.heap.size, 3, none⟩ (.int .i64 0)).setCell ⟨w.heap.size, 4, none⟩ (.int .i64 0)).setCell ⟨w.heap.size, 5, none⟩ (.int .i64 0)).setCell ⟨w.heap.size, 6, none⟩ (.int .i64 0)).setCell ⟨w.heap.size, 7, none⟩ (.int .i64 0)).setCell ⟨w.heap.size, 8, none⟩ (.int .i64 0)).setCell ⟨w.heap.size, 9, none⟩ (.bool false)) w.heap.size [.int .u32 0, .int .u32 0, .int .i64 0, .int .i64 0, .int .i64 0, .int .i64 0, .int .i64 0, .int .i64 0, .int .i64 0, .bool false]) := ((((((((((BL.out.set 0 (.int .u32 0)).set 1 (.int .u32 0)).set 2 (.int .i64 0)).set 3 (.int .i64 0)).set 4 (.int .i64 0)).set 5 (.int .i64 0)).set 6 (.int .i64 0)).set 7 (.int .i64 0)).set 8 (.int .i64 0)).set 9 (.bool false))
        have HF : Hid (Below w.heap.size w ((((((((((u1.setCell ⟨w.heap.size, 0, none⟩ (.int .u32 0)).setCell ⟨w.heap.size, 1, none⟩ (.int .u32 0)).setCell ⟨w.heap.size, 2, none⟩ (.int .i64 0)).setCell ⟨w.heap.size, 3, none⟩ (.int .i64 0)).setCell ⟨w.heap.size, 4, none⟩ (.int .i64 0)).setCell ⟨w.heap.size, 5, none⟩ (.int .i64 0)).setCell ⟨w.heap.size, 6, none⟩ (.int .i64 0)).setCell ⟨w.heap.size, 7, none⟩ (.int .i64 0)).setCell ⟨w.heap.size, 8, none⟩ (.int .i64 0)).setCell ⟨w.heap.size, 9, none⟩ (.bool false))) := ((((((((((HU.out.setCell (Nat.le_refl _) (.int .u32 0)).setCell (Nat.le_refl _) (.int .u32 0)).setCell (Nat.le_refl _) (.int .i64 0)).setCell (Nat.le_refl _) (.int .i64 0)).setCell (Nat.le_refl _) (.int .i64 0)).setCell (Nat.le_refl _) (.int .i64 0)).setCell (Nat.le_refl _) (.int .i64 0)).setCell (Nat.le_refl _) (.int .i64 0)).setCell (Nat.le_refl _) (.int .i64 0)).setCell (Nat.le_refl _) (.bool false))
        clear hHeld
        obtain ⟨z0, z1, z2, z3, z4, z5, z6, z7, z8, z9⟩ := BN.out.ten
        obtain ⟨r0, r1, r2, r3, r4, r5, r6, r7, r8, r9⟩ := BL.out.ten
        obtain ⟨s0, s1, s2, s3, s4, s5, s6, s7, s8, s9⟩ := BL.out.froz10
        have ltL := BL.out.lt
        have ltN := BN.out.lt
        go_wp2_with fail
        clear z0 z1 z2 z3 z4 z5 z6 z7 z8 z9 r0 r1 r2 r3 r4 r5 r6 r7 r8 r9 s0 s1 s2 s3 s4 s5 s6 s7 s8 s9
        obtain ⟨q0, q1, q2, q3, q4, q5, q6, q7, q8, q9⟩ := BF.out.ten
        exact bodyPost_ret (v := .tuple #[labV Lab.zero, .int .i64 90]) (by simp [results, Try.results17, go_sem, q0, q1, q2, q3, q4, q5, q6, q7, q8, q9]; rfl) rfl ⟨rfl, HF.out⟩
      | true =>
        have hmay := LB.may_iff.1 hm
        have CB := Lib.hid (fun w1 => refLBlock_any ni nv (n9 : Int) (n10 : Int) (n11 : Int) (n12 : Int) (n13 : Int) (-1) (n15 : Int) op w1 HI.out hmay)
        have HBB : Hid (Bytes (Lab.block ⟨ni, nv, (n9 : Int), (n10 : Int), (n11 : Int), (n12 : Int), (n13 : Int), (-1), (n15 : Int), op⟩)) := LB.block_bytes hmay HI.out
        have HBL : Hid ((Lab.block ⟨ni, nv, (n9 : Int), (n10 : Int), (n11 : Int), (n12 : Int), (n13 : Int), (-1), (n15 : Int), op⟩).length = 128) := LB.block_length _
        rw [hm] at CM
        have hgd : LB.good m = decide (Lab.block ⟨ni, nv, (n9 : Int), (n10 : Int), (n11 : Int), (n12 : Int), (n13 : Int), (-1), (n15 : Int), op⟩ = m) := by unfold LB.good; rw [HP.out, hm]; rfl
        have hx := HX.out
        rw [hgd, HP.out] at hx
        clear hm hgd hmay HX
        generalize hBK : Lab.block ⟨ni, nv, (n9 : Int), (n10 : Int), (n11 : Int), (n12 : Int), (n13 : Int), (-1), (n15 : Int), op⟩ = K at *
        clear hBK
        by_cases hk : K = m
        · have hn : ((str K).toList == (str m).toList) = true := by rw [str_two HBB.out HB.out]; exact decide_eq_true hk
          rw [decide_eq_true hk, if_pos rfl] at hx
          injection hx with hx1 hx2
          subst hx1 hx2
          clear hk
          refine wp_region_noPanic ?_
          refine PX.wp_region_y (fun w' => Below wn.heap.size wn w') [] (by kernel_rfl) (Below.refl _ _).drew (fun hHeld => ?_)
          refine PX.wpAnyY_take (i := 0) (oi := ?_) (v := ?_) ?_ (by kernel_rfl) (by kernel_rfl) (by kernel_rfl) (by kernel_rfl) (by kernel_rfl) (fun _ _ _ h => h) (Or.inl ⟨?_, ?_⟩) (by assumption) ?_
          rotate_left 2
          · simp only [List.getElem?_toArray, List.getElem?_cons_succ, List.getElem?_cons_zero]; rfl
          · rfl
          · intro w hSw; (try dsimp only at hSw); have hC := fun (b o : Nat) (h : b < wn.heap.size) => Below.cell hSw (p := ⟨b, o, none⟩) h; go_simp <;> with_reducible rfl
          (try simp only [Act.put, List.setIfInBounds_toArray, List.set_cons_zero, List.set_cons_succ])
          refine PX.wpAnyY_one (i := 1) (o := ?_) (by kernel_rfl) ?_ (fun Kq hKq => ?_)
          rotate_left
          · simp only [List.getElem?_toArray, List.getElem?_cons_succ, List.getElem?_cons_zero]; rfl
          go_simp
          (with_reducible refine (CM.out _).mono ?_)
          rintro e u1 ⟨rfl, bq⟩
          have H1 := Lib.hid (thence hHeld bq (Nat.le_refl _))
          clear bq
          go_wp2_with fail
          refine hKq.out _ _ (H1.out) (fun hHeld => ?_)
          clear hKq Kq
          (try simp only [Act.put, List.setIfInBounds_toArray, List.set_cons_zero, List.set_cons_succ])
          refine PX.wpAnyY_one (i := 2) (o := ?_) (by kernel_rfl) ?_ (fun Kq hKq => ?_)
          rotate_left
          · simp only [List.getElem?_toArray, List.getElem?_cons_succ, List.getElem?_cons_zero]; rfl
          go_simp
          refine hKq.out _ _ (hHeld) (fun hHeld => ?_)
          clear hKq Kq
          (try simp only [Act.put, List.setIfInBounds_toArray, List.set_cons_zero, List.set_cons_succ])
          refine PX.wpAnyY_one (i := 3) (o := ?_) (by kernel_rfl) ?_ (fun Kq hKq => ?_)
          rotate_left
          · simp only [List.getElem?_toArray, List.getElem?_cons_succ, List.getElem?_cons_zero]; rfl
          go_simp
          refine hKq.out _ _ (hHeld) (fun hHeld => ?_)
          clear hKq Kq
          (try simp only [Act.put, List.setIfInBounds_toArray, List.set_cons_zero, List.set_cons_succ])
          refine PX.wpAnyY_take (i := 4) (oi := ?_) (v := ?_) ?_ (by kernel_rfl) (by kernel_rfl) (by kernel_rfl) (by kernel_rfl) (by kernel_rfl) (fun _ _ _ h => h) (Or.inl ⟨?_, ?_⟩) (by assumption) ?_
          rotate_left 2
          · simp only [List.getElem?_toArray, List.getElem?_cons_succ, List.getElem?_cons_zero]; rfl
          · rfl
          · intro w hSw; (try dsimp only at hSw); have hC := fun (b o : Nat) (h : b < wn.heap.size) => Below.cell hSw (p := ⟨b, o, none⟩) h; go_simp <;> with_reducible rfl
          (try simp only [Act.put, List.setIfInBounds_toArray, List.set_cons_zero, List.set_cons_succ])
          refine PX.wpAnyY_take (i := 7) (oi := ?_) (v := ?_) ?_ (by kernel_rfl) (by kernel_rfl) (by kernel_rfl) (by kernel_rfl) (by kernel_rfl) (fun _ _ _ h => h) (Or.inl ⟨?_, ?_⟩) (by assumption) ?_
          rotate_left 2
          · simp only [List.getElem?_toArray, List.getElem?_cons_succ, List.getElem?_cons_zero]; rfl
          · rfl
          · intro w hSw; (try dsimp only at hSw); go_simp <;> with_reducible rfl
          (try simp only [Act.put, List.setIfInBounds_toArray, List.set_cons_zero, List.set_cons_succ])
          refine PX.wpAnyY_take (i := 8) (oi := ?_) (v := ?_) ?_ (by kernel_rfl) (by kernel_rfl) (by kernel_rfl) (by kernel_rfl) (by kernel_rfl) (fun _ _ _ h => h) (Or.inl ⟨?_, ?_⟩) (by assumption) ?_
          rotate_left 2
          · simp only [List.getElem?_toArray, List.getElem?_cons_succ, List.getElem?_cons_zero]; rfl
          · rfl
          · intro w hSw; (try dsimp only at hSw); have T8 := text_is w _ _ _ _ (RN.out.below (hSw.mono (HN.out.size))); go_simp <;> with_reducible rfl
          (try simp only [Act.put, List.setIfInBounds_toArray, List.set_cons_zero, List.set_cons_succ])
          refine PX.wpAnyY_one (i := 5) (o := ?_) (by kernel_rfl) ?_ (fun Kq hKq => ?_)
          rotate_left
          · simp only [List.getElem?_toArray, List.getElem?_cons_succ, List.getElem?_cons_zero]; rfl
          go_simp
          (with_reducible refine (CB.out _).mono ?_)
          rintro e u5 ⟨g5, rfl, hg5, hb5, bq⟩
          have H5 := Lib.hid (thence hHeld bq (Nat.le_refl _))
          have T5 := text_is u5 _ _ _ _ (hb5.rd HBL.out HBB.out)
          clear bq
          go_wp2_with fail
          refine hKq.out _ _ (H5.out) (fun hHeld => ?_)
          clear hKq Kq
          (try simp only [Act.put, List.setIfInBounds_toArray, List.set_cons_zero, List.set_cons_succ])
          refine PX.wpAnyY_one (i := 6) (o := ?_) (by kernel_rfl) ?_ (fun Kq hKq => ?_)
          rotate_left
          · simp only [List.getElem?_toArray, List.getElem?_cons_succ, List.getElem?_cons_zero]; rfl
          go_simp
          refine hKq.out _ _ (hHeld) (fun hHeld => ?_)
          clear hKq Kq
          (try simp only [Act.put, List.setIfInBounds_toArray, List.set_cons_zero, List.set_cons_succ])
          refine PX.wpAnyY_one (i := 9) (o := ?_) (by kernel_rfl) ?_ (fun Kq hKq => ?_)
          rotate_left
          · simp only [List.getElem?_toArray, List.getElem?_cons_succ, List.getElem?_cons_zero]; rfl
          go_simp
          refine hKq.out _ _ (hHeld) (fun hHeld => ?_)
          clear hKq Kq
          (try simp only [Act.put, List.setIfInBounds_toArray, List.set_cons_zero, List.set_cons_succ])
          refine PX.wpAnyY_one (i := 10) (o := ?_) (by kernel_rfl) ?_ (fun Kq hKq => ?_)
          rotate_left
          · simp only [List.getElem?_toArray, List.getElem?_cons_succ, List.getElem?_cons_zero]; rfl
          go_simp
          refine hKq.out _ _ (hHeld) (fun hHeld => ?_)
          clear hKq Kq
          (try simp only [Act.put, List.setIfInBounds_toArray, List.set_cons_zero, List.set_cons_succ])
          refine PX.wpAnyY_done (by kernel_rfl) ?_ _
          refine NoPanic.normal ?_
          replace BL := Lib.hid (BL.out.here H5.out)
          replace BN := Lib.hid (BN.out.here H5.out)
          have HU := Lib.hid (hgn.out.trans (H5.out.mono hgn.out.size))
          clear ltL ltN
          have BF : Hid (Bx ((((((((((u5.setCell ⟨w.heap.size, 0, none⟩ (.int .u32 (ni : Int))).setCell ⟨w.heap.size, 1, none⟩ (.int .u32 (nv : Int))).setCell ⟨w.heap.size, 2, none⟩ (.int .i64 (n9 : Int))).setCell ⟨w.heap.size, 3, none⟩ (.int .i64 (n10 : Int))).setCell ⟨w.heap.size, 4, none⟩ (.int .i64 (n11 : Int))).setCell ⟨w.heap.size, 5, none⟩ (.int .i64 (n12 : Int))).setCell ⟨w.heap.size, 6, none⟩ (.int .i64 (n13 : Int))).setCell ⟨w.heap.size, 7, none⟩ (.int .i64 (-1))).setCell ⟨w.heap.size, 8, none⟩ (.int .i64 (n15 : Int))).setCell ⟨w.heap.size, 9, none⟩ (.bool op)) w.heap.size [.int .u32 (ni : Int), .int .u32 (nv : Int), .int .i64 (n9 : Int), .int .i64 (n10 : Int), .int .i64 (n11 : Int), .int .i64 (n12 : Int), .int .i64 (n13 : Int), .int .i64 (-1), .int .i64 (n15 : Int), .bool op]) := ((((((((((BL.out.set 0 (.int .u32 (ni : Int))).set 1 (.int .u32 (nv : Int))).set 2 (.int .i64 (n9 : Int))).set 3 (.int .i64 (n10 : Int))).set 4 (.int .i64 (n11 : Int))).set 5 (.int .i64 (n12 : Int))).set 6 (.int .i64 (n13 : Int))).set 7 (.int .i64 (-1))).set 8 (.int .i64 (n15 : Int))).set 9 (.bool op))
          have HF : Hid (Below w.heap.size w ((((((((((u5.setCell ⟨w.heap.size, 0, none⟩ (.int .u32 (ni : Int))).setCell ⟨w.heap.size, 1, none⟩ (.int .u32 (nv : Int))).setCell ⟨w.heap.size, 2, none⟩ (.int .i64 (n9 : Int))).setCell ⟨w.heap.size, 3, none⟩ (.int .i64 (n10 : Int))).setCell ⟨w.heap.size, 4, none⟩ (.int .i64 (n11 : Int))).setCell ⟨w.heap.size, 5, none⟩ (.int .i64 (n12 : Int))).setCell ⟨w.heap.size, 6, none⟩ (.int .i64 (n13 : Int))).setCell ⟨w.heap.size, 7, none⟩ (.int .i64 (-1))).setCell ⟨w.heap.size, 8, none⟩ (.int .i64 (n15 : Int))).setCell ⟨w.heap.size, 9, none⟩ (.bool op))) := ((((((((((HU.out.setCell (Nat.le_refl _) (.int .u32 (ni : Int))).setCell (Nat.le_refl _) (.int .u32 (nv : Int))).setCell (Nat.le_refl _) (.int .i64 (n9 : Int))).setCell (Nat.le_refl _) (.int .i64 (n10 : Int))).setCell (Nat.le_refl _) (.int .i64 (n11 : Int))).setCell (Nat.le_refl _) (.int .i64 (n12 : Int))).setCell (Nat.le_refl _) (.int .i64 (n13 : Int))).setCell (Nat.le_refl _) (.int .i64 (-1))).setCell (Nat.le_refl _) (.int .i64 (n15 : Int))).setCell (Nat.le_refl _) (.bool op))
          clear hHeld
          obtain ⟨z0, z1, z2, z3, z4, z5, z6, z7, z8, z9⟩ := BN.out.ten
          obtain ⟨r0, r1, r2, r3, r4, r5, r6, r7, r8, r9⟩ := BL.out.ten
          obtain ⟨s0, s1, s2, s3, s4, s5, s6, s7, s8, s9⟩ := BL.out.froz10
          have ltL := BL.out.lt
          have ltN := BN.out.lt
          go_wp2_with fail
          clear z0 z1 z2 z3 z4 z5 z6 z7 z8 z9 r0 r1 r2 r3 r4 r5 r6 r7 r8 r9 s0 s1 s2 s3 s4 s5 s6 s7 s8 s9
          obtain ⟨q0, q1, q2, q3, q4, q5, q6, q7, q8, q9⟩ := BF.out.ten
          exact bodyPost_ret (v := .tuple #[labV ⟨ni, nv, (n9 : Int), (n10 : Int), (n11 : Int), (n12 : Int), (n13 : Int), (-1), (n15 : Int), op⟩, .int .i64 0]) (by simp [results, Try.results17, go_sem, q0, q1, q2, q3, q4, q5, q6, q7, q8, q9]; rfl) rfl ⟨rfl, HF.out⟩
        · have hn : ((str K).toList == (str m).toList) = false := by rw [str_two HBB.out HB.out]; exact decide_eq_false hk
          rw [decide_eq_false hk, if_neg (by decide)] at hx
          injection hx with hx1 hx2
          subst hx1 hx2
          clear hk
          refine wp_region_noPanic ?_
          refine PX.wp_region_y (fun w' => Below wn.heap.size wn w') [] (by kernel_rfl) (Below.refl _ _).drew (fun hHeld => ?_)
          refine PX.wpAnyY_take (i := 0) (oi := ?_) (v := ?_) ?_ (by kernel_rfl) (by kernel_rfl) (by kernel_rfl) (by kernel_rfl) (by kernel_rfl) (fun _ _ _ h => h) (Or.inl ⟨?_, ?_⟩) (by assumption) ?_
          rotate_left 2
          · simp only [List.getElem?_toArray, List.getElem?_cons_succ, List.getElem?_cons_zero]; rfl
          · rfl
          · intro w hSw; (try dsimp only at hSw); have hC := fun (b o : Nat) (h : b < wn.heap.size) => Below.cell hSw (p := ⟨b, o, none⟩) h; go_simp <;> with_reducible rfl
          (try simp only [Act.put, List.setIfInBounds_toArray, List.set_cons_zero, List.set_cons_succ])
          refine PX.wpAnyY_one (i := 1) (o := ?_) (by kernel_rfl) ?_ (fun Kq hKq => ?_)
          rotate_left
          · simp only [List.getElem?_toArray, List.getElem?_cons_succ, List.getElem?_cons_zero]; rfl
          go_simp
          (with_reducible refine (CM.out _).mono ?_)
          rintro e u1 ⟨rfl, bq⟩
          have H1 := Lib.hid (thence hHeld bq (Nat.le_refl _))
          clear bq
          go_wp2_with fail
          refine hKq.out _ _ (H1.out) (fun hHeld => ?_)
          clear hKq Kq
          (try simp only [Act.put, List.setIfInBounds_toArray, List.set_cons_zero, List.set_cons_succ])
          refine PX.wpAnyY_one (i := 2) (o := ?_) (by kernel_rfl) ?_ (fun Kq hKq => ?_)
          rotate_left
          · simp only [List.getElem?_toArray, List.getElem?_cons_succ, List.getElem?_cons_zero]; rfl
          go_simp
          refine hKq.out _ _ (hHeld) (fun hHeld => ?_)
          clear hKq Kq
          (try simp only [Act.put, List.setIfInBounds_toArray, List.set_cons_zero, List.set_cons_succ])
          refine PX.wpAnyY_one (i := 3) (o := ?_) (by kernel_rfl) ?_ (fun Kq hKq => ?_)
          rotate_left
          · simp only [List.getElem?_toArray, List.getElem?_cons_succ, List.getElem?_cons_zero]; rfl
          go_simp
          refine hKq.out _ _ (hHeld) (fun hHeld => ?_)
          clear hKq Kq
          (try simp only [Act.put, List.setIfInBounds_toArray, List.set_cons_zero, List.set_cons_succ])
          refine PX.wpAnyY_take (i := 4) (oi := ?_) (v := ?_) ?_ (by kernel_rfl) (by kernel_rfl) (by kernel_rfl) (by kernel_rfl) (by kernel_rfl) (fun _ _ _ h => h) (Or.inl ⟨?_, ?_⟩) (by assumption) ?_
          rotate_left 2
          · simp only [List.getElem?_toArray, List.getElem?_cons_succ, List.getElem?_cons_zero]; rfl
          · rfl
          · intro w hSw; (try dsimp only at hSw); have hC := fun (b o : Nat) (h : b < wn.heap.size) => Below.cell hSw (p := ⟨b, o, none⟩) h; go_simp <;> with_reducible rfl
          (try simp only [Act.put, List.setIfInBounds_toArray, List.set_cons_zero, List.set_cons_succ])
          refine PX.wpAnyY_take (i := 7) (oi := ?_) (v := ?_) ?_ (by kernel_rfl) (by kernel_rfl) (by kernel_rfl) (by kernel_rfl) (by kernel_rfl) (fun _ _ _ h => h) (Or.inl ⟨?_, ?_⟩) (by assumption) ?_
          rotate_left 2
          · simp only [List.getElem?_toArray, List.getElem?_cons_succ, List.getElem?_cons_zero]; rfl
          · rfl
          · intro w hSw; (try dsimp only at hSw); go_simp <;> with_reducible rfl
          (try simp only [Act.put, List.setIfInBounds_toArray, List.set_cons_zero, List.set_cons_succ])
          refine PX.wpAnyY_take (i := 8) (oi := ?_) (v := ?_) ?_ (by kernel_rfl) (by kernel_rfl) (by kernel_rfl) (by kernel_rfl) (by kernel_rfl) (fun _ _ _ h => h) (Or.inl ⟨?_, ?_⟩) (by assumption) ?_
          rotate_left 2
          · simp only [List.getElem?_toArray, List.getElem?_cons_succ, List.getElem?_cons_zero]; rfl
          · rfl
          · intro w hSw; (try dsimp only at hSw); have T8 := text_is w _ _ _ _ (RN.out.below (hSw.mono (HN.out.size))); go_simp <;> with_reducible rfl
          (try simp only [Act.put, List.setIfInBounds_toArray, List.set_cons_zero, List.set_cons_succ])
          refine PX.wpAnyY_one (i := 5) (o := ?_) (by kernel_rfl) ?_ (fun Kq hKq => ?_)
          rotate_left
          · simp only [List.getElem?_toArray, List.getElem?_cons_succ, List.getElem?_cons_zero]; rfl
          go_simp
          (with_reducible refine (CB.out _).mono ?_)
          rintro e u5 ⟨g5, rfl, hg5, hb5, bq⟩
          have H5 := Lib.hid (thence hHeld bq (Nat.le_refl _))
          have T5 := text_is u5 _ _ _ _ (hb5.rd HBL.out HBB.out)
          clear bq
          go_wp2_with fail
          refine hKq.out _ _ (H5.out) (fun hHeld => ?_)
          clear hKq Kq
          (try simp only [Act.put, List.setIfInBounds_toArray, List.set_cons_zero, List.set_cons_succ])
          refine PX.wpAnyY_one (i := 6) (o := ?_) (by kernel_rfl) ?_ (fun Kq hKq => ?_)
          rotate_left
          · simp only [List.getElem?_toArray, List.getElem?_cons_succ, List.getElem?_cons_zero]; rfl
          go_simp
          refine hKq.out _ _ (hHeld) (fun hHeld => ?_)
          clear hKq Kq
          (try simp only [Act.put, List.setIfInBounds_toArray, List.set_cons_zero, List.set_cons_succ])
          refine PX.wpAnyY_one (i := 9) (o := ?_) (by kernel_rfl) ?_ (fun Kq hKq => ?_)
          rotate_left
          · simp only [List.getElem?_toArray, List.getElem?_cons_succ, List.getElem?_cons_zero]; rfl
          go_simp
          refine hKq.out _ _ (hHeld) (fun hHeld => ?_)
          clear hKq Kq
          (try simp only [Act.put, List.setIfInBounds_toArray, List.set_cons_zero, List.set_cons_succ])
          refine PX.wpAnyY_one (i := 10) (o := ?_) (by kernel_rfl) ?_ (fun Kq hKq => ?_)
          rotate_left
          · simp only [List.getElem?_toArray, List.getElem?_cons_succ, List.getElem?_cons_zero]; rfl
          go_simp
          refine hKq.out _ _ (hHeld) (fun hHeld => ?_)
          clear hKq Kq
          (try simp only [Act.put, List.setIfInBounds_toArray, List.set_cons_zero, List.set_cons_succ])
          refine PX.wpAnyY_done (by kernel_rfl) ?_ _
          refine NoPanic.normal ?_
          replace BL := Lib.hid (BL.out.here H5.out)
          replace BN := Lib.hid (BN.out.here H5.out)
          have HU := Lib.hid (hgn.out.trans (H5.out.mono hgn.out.size))
          clear ltL ltN
          have BF : Hid (Bx ((((((((((u5.setCell ⟨w.heap.size, 0, none⟩ (.int .u32 0)).setCell ⟨w.heap.size, 1, none⟩ (.int .u32 0)).setCell ⟨w.heap.size, 2, none⟩ (.int .i64 0)).setCell ⟨w.heap.size, 3, none⟩ (.int .i64 0)).setCell ⟨w.heap.size, 4, none⟩ (.int .i64 0)).setCell ⟨w.heap.size, 5, none⟩ (.int .i64 0)).setCell ⟨w.heap.size, 6, none⟩ (.int .i64 0)).setCell ⟨w.heap.size, 7, none⟩ (.int .i64 0)).setCell ⟨w.heap.size, 8, none⟩ (.int .i64 0)).setCell ⟨w.heap.size, 9, none⟩ (.bool false)) w.heap.size [.int .u32 0, .int .u32 0, .int .i64 0, .int .i64 0, .int .i64 0, .int .i64 0, .int .i64 0, .int .i64 0, .int .i64 0, .bool false]) := ((((((((((BL.out.set 0 (.int .u32 0)).set 1 (.int .u32 0)).set 2 (.int .i64 0)).set 3 (.int .i64 0)).set 4 (.int .i64 0)).set 5 (.int .i64 0)).set 6 (.int .i64 0)).set 7 (.int .i64 0)).set 8 (.int .i64 0)).set 9 (.bool false))
          have HF : Hid (Below w.heap.size w ((((((((((u5.setCell ⟨w.heap.size, 0, none⟩ (.int .u32 0)).setCell ⟨w.heap.size, 1, none⟩ (.int .u32 0)).setCell ⟨w.heap.size, 2, none⟩ (.int .i64 0)).setCell ⟨w.heap.size, 3, none⟩ (.int .i64 0)).setCell ⟨w.heap.size, 4, none⟩ (.int .i64 0)).setCell ⟨w.heap.size, 5, none⟩ (.int .i64 0)).setCell ⟨w.heap.size, 6, none⟩ (.int .i64 0)).setCell ⟨w.heap.size, 7, none⟩ (.int .i64 0)).setCell ⟨w.heap.size, 8, none⟩ (.int .i64 0)).setCell ⟨w.heap.size, 9, none⟩ (.bool false))) := ((((((((((HU.out.setCell (Nat.le_refl _) (.int .u32 0)).setCell (Nat.le_refl _) (.int .u32 0)).setCell (Nat.le_refl _) (.int .i64 0)).setCell (Nat.le_refl _) (.int .i64 0)).setCell (Nat.le_refl _) (.int .i64 0)).setCell (Nat.le_refl _) (.int .i64 0)).setCell (Nat.le_refl _) (.int .i64 0)).setCell (Nat.le_refl _) (.int .i64 0)).setCell (Nat.le_refl _) (.int .i64 0)).setCell (Nat.le_refl _) (.bool false))
          clear hHeld
          obtain ⟨z0, z1, z2, z3, z4, z5, z6, z7, z8, z9⟩ := BN.out.ten
          obtain ⟨r0, r1, r2, r3, r4, r5, r6, r7, r8, r9⟩ := BL.out.ten
          obtain ⟨s0, s1, s2, s3, s4, s5, s6, s7, s8, s9⟩ := BL.out.froz10
          have ltL := BL.out.lt
          have ltN := BN.out.lt
          go_wp2_with fail
          clear z0 z1 z2 z3 z4 z5 z6 z7 z8 z9 r0 r1 r2 r3 r4 r5 r6 r7 r8 r9 s0 s1 s2 s3 s4 s5 s6 s7 s8 s9
          obtain ⟨q0, q1, q2, q3, q4, q5, q6, q7, q8, q9⟩ := BF.out.ten
          exact bodyPost_ret (v := .tuple #[labV Lab.zero, .int .i64 90]) (by simp [results, Try.results17, go_sem, q0, q1, q2, q3, q4, q5, q6, q7, q8, q9]; rfl) rfl ⟨rfl, HF.out⟩
    · have e14 : (((n14 : Nat) : Int) == 255) = false := by simp; omega
      rw [if_neg h14] at HP
      clear h14
      have BN := BM
      have HN := HM
      go_wp2_with fail
      clear z0 z1 z2 z3 z4 z5 z6 z7 z8 z9 y0 y1 y2 y3 y4 y5 y6 y7 y8 y9 ltN f14' BM HM
      generalize wm = wn at *
      have BL := Lib.hid (BR.out.here HN.out)
      have RN := Lib.hid (R1.out.below HN.out)
      have hgn : Hid (Below w.heap.size w wn) := B0.out.trans ((thence B1.out HN.out (Nat.le_refl _)).mono B0.out.size)
      have CM := Lib.hid (refLMay_any ni nv (n9 : Int) (n10 : Int) (n11 : Int) (n12 : Int) (n13 : Int) (n14 : Int) (n15 : Int) op)
      have ltL := BL.out.lt
      have ltN := BN.out.lt
      obtain ⟨z0, z1, z2, z3, z4, z5, z6, z7, z8, z9⟩ := BN.out.ten
      cases hm : Lab.may ⟨ni, nv, (n9 : Int), (n10 : Int), (n11 : Int), (n12 : Int), (n13 : Int), (n14 : Int), (n15 : Int), op⟩ with
      | false =>
        rw [hm] at CM
        have hgd : LB.good m = false := by unfold LB.good; rw [HP.out, hm]; rfl
        have hx := HX.out
        rw [hgd, if_neg (by decide)] at hx
        injection hx with hx1 hx2
        subst hx1 hx2
        clear hm hgd HX
        refine wp_region_noPanic ?_
        refine PX.wp_region_y (fun w' => Below wn.heap.size wn w') [] (by kernel_rfl) (Below.refl _ _).drew (fun hHeld => ?_)
        refine PX.wpAnyY_take (i := 0) (oi := ?_) (v := ?_) ?_ (by kernel_rfl) (by kernel_rfl) (by kernel_rfl) (by kernel_rfl) (by kernel_rfl) (fun _ _ _ h => h) (Or.inl ⟨?_, ?_⟩) (by assumption) ?_
        rotate_left 2
        · simp only [List.getElem?_toArray, List.getElem?_cons_succ, List.getElem?_cons_zero]; rfl
        · rfl
        · intro w hSw; (try dsimp only at hSw); have hC := fun (b o : Nat) (h : b < wn.heap.size) => Below.cell hSw (p := ⟨b, o, none⟩) h; go_simp <;> with_reducible rfl
        (try simp only [Act.put, List.setIfInBounds_toArray, List.set_cons_zero, List.set_cons_succ])
        refine PX.wpAnyY_one (i := 1) (o := ?_) (by kernel_rfl) ?_ (fun Kq hKq => ?_)
        rotate_left
        · simp only [List.getElem?_toArray, List.getElem?_cons_succ, List.getElem?_cons_zero]; rfl
        go_simp
        (with_reducible refine (CM.out _).mono ?_)
        rintro e u1 ⟨rfl, bq⟩
        have H1 := Lib.hid (thence hHeld bq (Nat.le_refl _))
        clear bq
        go_wp2_with fail
        refine hKq.out _ _ (H1.out) (fun hHeld => ?_)
        clear hKq Kq
        (try simp only [Act.put, List.setIfInBounds_toArray, List.set_cons_zero, List.set_cons_succ])
        refine PX.wpAnyY_one (i := 2) (o := ?_) (by kernel_rfl) ?_ (fun Kq hKq => ?_)
        rotate_left
        · simp only [List.getElem?_toArray, List.getElem?_cons_succ, List.getElem?_cons_zero]; rfl
        go_simp
        refine hKq.out _ _ (hHeld) (fun hHeld => ?_)
        clear hKq Kq
        (try simp only [Act.put, List.setIfInBounds_toArray, List.set_cons_zero, List.set_cons_succ])
        refine PX.wpAnyY_one (i := 3) (o := ?_) (by kernel_rfl) ?_ (fun Kq hKq => ?_)
        rotate_left
        · simp only [List.getElem?_toArray, List.getElem?_cons_succ, List.getElem?_cons_zero]; rfl
        go_simp
        refine hKq.out _ _ (hHeld) (fun hHeld => ?_)
        clear hKq Kq
        (try simp only [Act.put, List.setIfInBounds_toArray, List.set_cons_zero, List.set_cons_succ])
        refine PX.wpAnyY_take (i := 4) (oi := ?_) (v := undef) ?_ (by kernel_rfl) (by kernel_rfl) (by kernel_rfl) (by kernel_rfl) (by kernel_rfl) (fun _ _ _ h => h) (Or.inr ⟨?_, rfl⟩) (by assumption) ?_
        rotate_left
        · simp only [List.getElem?_toArray, List.getElem?_cons_succ, List.getElem?_cons_zero]; rfl
        · rfl
        (try simp only [Act.put, List.setIfInBounds_toArray, List.set_cons_zero, List.set_cons_succ])
        refine PX.wpAnyY_take (i := 5) (oi := ?_) (v := undef) ?_ (by kernel_rfl) (by kernel_rfl) (by kernel_rfl) (by kernel_rfl) (by kernel_rfl) (fun _ _ _ h => h) (Or.inr ⟨?_, rfl⟩) (by assumption) ?_
        rotate_left
        · simp only [List.getElem?_toArray, List.getElem?_cons_succ, List.getElem?_cons_zero]; rfl
        · rfl
        (try simp only [Act.put, List.setIfInBounds_toArray, List.set_cons_zero, List.set_cons_succ])
        refine PX.wpAnyY_take (i := 6) (oi := ?_) (v := undef) ?_ (by kernel_rfl) (by kernel_rfl) (by kernel_rfl) (by kernel_rfl) (by kernel_rfl) (fun _ _ _ h => h) (Or.inr ⟨?_, rfl⟩) (by assumption) ?_
        rotate_left
        · simp only [List.getElem?_toArray, List.getElem?_cons_succ, List.getElem?_cons_zero]; rfl
        · rfl
        (try simp only [Act.put, List.setIfInBounds_toArray, List.set_cons_zero, List.set_cons_succ])
        refine PX.wpAnyY_one (i := 7) (o := ?_) (by kernel_rfl) ?_ (fun Kq hKq => ?_)
        rotate_left
        · simp only [List.getElem?_toArray, List.getElem?_cons_succ, List.getElem?_cons_zero]; rfl
        go_simp
        refine hKq.out _ _ (hHeld) (fun hHeld => ?_)
        clear hKq Kq
        (try simp only [Act.put, List.setIfInBounds_toArray, List.set_cons_zero, List.set_cons_succ])
        refine PX.wpAnyY_one (i := 8) (o := ?_) (by kernel_rfl) ?_ (fun Kq hKq => ?_)
        rotate_left
        · simp only [List.getElem?_toArray, List.getElem?_cons_succ, List.getElem?_cons_zero]; rfl
        go_simp
        refine hKq.out _ _ (hHeld) (fun hHeld => ?_)
        clear hKq Kq
        (try simp only [Act.put, List.setIfInBounds_toArray, List.set_cons_zero, List.set_cons_succ])
        refine PX.wpAnyY_one (i := 9) (o := ?_) (by kernel_rfl) ?_ (fun Kq hKq => ?_)
        rotate_left
        · simp only [List.getElem?_toArray, List.getElem?_cons_succ, List.getElem?_cons_zero]; rfl
        go_simp
        refine hKq.out _ _ (hHeld) (fun hHeld => ?_)
        clear hKq Kq
        (try simp only [Act.put, List.setIfInBounds_toArray, List.set_cons_zero, List.set_cons_succ])
        refine PX.wpAnyY_one (i := 10) (o := ?_) (by kernel_rfl) ?_ (fun Kq hKq => ?_)
        rotate_left
        · simp only [List.getElem?_toArray, List.getElem?_cons_succ, List.getElem?_cons_zero]; rfl
        go_simp
        refine hKq.out _ _ (hHeld) (fun hHeld => ?_)
        clear hKq Kq
        (try simp only [Act.put, List.setIfInBounds_toArray, List.set_cons_zero, List.set_cons_succ])
        refine PX.wpAnyY_done (by kernel_rfl) ?_ _
        refine NoPanic.normal ?_
        replace BL := Lib.hid (BL.out.here H1.out)
        replace BN := Lib.hid (BN.out.here H1.out)
        have HU := Lib.hid (hgn.out.trans (H1.out.mono hgn.out.size))
        clear ltL ltN
        have BF : Hid (Bx ((((((((((u1.setCell ⟨w.heap.size, 0, none⟩ (.int .u32 0)).setCell ⟨w.heap.size, 1, none⟩ (.int .u32 0)).setCell ⟨w.heap.size, 2, none⟩ (.int .i64 0)).setCell ⟨w.heap.size, 3, none⟩ (.int .i64 0)).setCell ⟨w.heap.size, 4, none⟩ (.int .i64 0)).setCell ⟨w.heap.size, 5, none⟩ (.int .i64 0)).setCell ⟨w.heap.size, 6, none⟩ (.int .i64 0)).setCell ⟨w.heap.size, 7, none⟩ (.int .i64 0)).setCell ⟨w.heap.size, 8, none⟩ (.int .i64 0)).setCell ⟨w.heap.size, 9, none⟩ (.bool false)) w.heap.size [.int .u32 0, .int .u32 0, .int .i64 0, .int .i64 0, .int .i64 0, .int .i64 0, .int .i64 0, .int .i64 0, .int .i64 0, .bool false]) := ((((((((((BL.out.set 0 (.int .u32 0)).set 1 (.int .u32 0)).set 2 (.int .i64 0)).set 3 (.int .i64 0)).set 4 (.int .i64 0)).set 5 (.int .i64 0)).set 6 (.int .i64 0)).set 7 (.int .i64 0)).set 8 (.int .i64 0)).set 9 (.bool false))
        have HF : Hid (Below w.heap.size w ((((((((((u1.setCell ⟨w.heap.size, 0, none⟩ (.int .u32 0)).setCell ⟨w.heap.size, 1, none⟩ (.int .u32 0)).setCell ⟨w.heap.size, 2, none⟩ (.int .i64 0)).setCell ⟨w.heap.size, 3, none⟩ (.int .i64 0)).setCell ⟨w.heap.size, 4, none⟩ (.int .i64 0)).setCell ⟨w.heap.size, 5, none⟩ (.int .i64 0)).setCell ⟨w.heap.size, 6, none⟩ (.int .i64 0)).setCell ⟨w.heap.size, 7, none⟩ (.int .i64 0)).setCell ⟨w.heap.size, 8, none⟩ (.int .i64 0)).setCell ⟨w.heap.size, 9, none⟩ (.bool false))) := ((((((((((HU.out.setCell (Nat.le_refl _) (.int .u32 0)).setCell (Nat.le_refl _) (.int .u32 0)).setCell (Nat.le_refl _) (.int .i64 0)).setCell (Nat.le_refl _) (.int .i64 0)).setCell (Nat.le_refl _) (.int .i64 0)).setCell (Nat.le_refl _) (.int .i64 0)).setCell (Nat.le_refl _) (.int .i64 0)).setCell (Nat.le_refl _) (.int .i64 0)).setCell (Nat.le_refl _) (.int .i64 0)).setCell (Nat.le_refl _) (.bool false))
        clear hHeld
        obtain ⟨z0, z1, z2, z3, z4, z5, z6, z7, z8, z9⟩ := BN.out.ten
        obtain ⟨r0, r1, r2, r3, r4, r5, r6, r7, r8, r9⟩ := BL.out.ten
        obtain ⟨s0, s1, s2, s3, s4, s5, s6, s7, s8, s9⟩ := BL.out.froz10
        have ltL := BL.out.lt
        have ltN := BN.out.lt
        go_wp2_with fail
        clear z0 z1 z2 z3 z4 z5 z6 z7 z8 z9 r0 r1 r2 r3 r4 r5 r6 r7 r8 r9 s0 s1 s2 s3 s4 s5 s6 s7 s8 s9
        obtain ⟨q0, q1, q2, q3, q4, q5, q6, q7, q8, q9⟩ := BF.out.ten
        exact bodyPost_ret (v := .tuple #[labV Lab.zero, .int .i64 90]) (by simp [results, Try.results17, go_sem, q0, q1, q2, q3, q4, q5, q6, q7, q8, q9]; rfl) rfl ⟨rfl, HF.out⟩
      | true =>
        have hmay := LB.may_iff.1 hm
        have CB := Lib.hid (fun w1 => refLBlock_any ni nv (n9 : Int) (n10 : Int) (n11 : Int) (n12 : Int) (n13 : Int) (n14 : Int) (n15 : Int) op w1 HI.out hmay)
        have HBB : Hid (Bytes (Lab.block ⟨ni, nv, (n9 : Int), (n10 : Int), (n11 : Int), (n12 : Int), (n13 : Int), (n14 : Int), (n15 : Int), op⟩)) := LB.block_bytes hmay HI.out
        have HBL : Hid ((Lab.block ⟨ni, nv, (n9 : Int), (n10 : Int), (n11 : Int), (n12 : Int), (n13 : Int), (n14 : Int), (n15 : Int), op⟩).length = 128) := LB.block_length _
        rw [hm] at CM
        have hgd : LB.good m = decide (Lab.block ⟨ni, nv, (n9 : Int), (n10 : Int), (n11 : Int), (n12 : Int), (n13 : Int), (n14 : Int), (n15 : Int), op⟩ = m) := by unfold LB.good; rw [HP.out, hm]; rfl
        have hx := HX.out
        rw [hgd, HP.out] at hx
        clear hm hgd hmay HX
        generalize hBK : Lab.block ⟨ni, nv, (n9 : Int), (n10 : Int), (n11 : Int), (n12 : Int), (n13 : Int), (n14 : Int), (n15 : Int), op⟩ = K at *
        clear hBK
        by_cases hk : K = m
        · have hn : ((str K).toList == (str m).toList) = true := by rw [str_two HBB.out HB.out]; exact decide_eq_true hk
          rw [decide_eq_true hk, if_pos rfl] at hx
          injection hx with hx1 hx2
          subst hx1 hx2
          clear hk
          refine wp_region_noPanic ?_
          refine PX.wp_region_y (fun w' => Below wn.heap.size wn w') [] (by kernel_rfl) (Below.refl _ _).drew (fun hHeld => ?_)
          refine PX.wpAnyY_take (i := 0) (oi := ?_) (v := ?_) ?_ (by kernel_rfl) (by kernel_rfl) (by kernel_rfl) (by kernel_rfl) (by kernel_rfl) (fun _ _ _ h => h) (Or.inl ⟨?_, ?_⟩) (by assumption) ?_
          rotate_left 2
          · simp only [List.getElem?_toArray, List.getElem?_cons_succ, List.getElem?_cons_zero]; rfl
          · rfl
          · intro w hSw; (try dsimp only at hSw); have hC := fun (b o : Nat) (h : b < wn.heap.size) => Below.cell hSw (p := ⟨b, o, none⟩) h; go_simp <;> with_reducible rfl
          (try simp only [Act.put, List.setIfInBounds_toArray, List.set_cons_zero, List.set_cons_succ])
          refine PX.wpAnyY_one (i := 1) (o := ?_) (by kernel_rfl) ?_ (fun Kq hKq => ?_)
          rotate_left
          · simp only [List.getElem?_toArray, List.getElem?_cons_succ, List.getElem?_cons_zero]; rfl
          go_simp
          (with_reducible refine (CM.out _).mono ?_)
          rintro e u1 ⟨rfl, bq⟩
          have H1 := Lib.hid (thence hHeld bq (Nat.le_refl _))
          clear bq
          go_wp2_with fail
          refine hKq.out _ _ (H1.out) (fun hHeld => ?_)
          clear hKq Kq
          (try simp only [Act.put, List.setIfInBounds_toArray, List.set_cons_zero, List.set_cons_succ])
          refine PX.wpAnyY_one (i := 2) (o := ?_) (by kernel_rfl) ?_ (fun Kq hKq => ?_)
          rotate_left
          · simp only [List.getElem?_toArray, List.getElem?_cons_succ, List.getElem?_cons_zero]; rfl
          go_simp
          refine hKq.out _ _ (hHeld) (fun hHeld => ?_)
          clear hKq Kq
          (try simp only [Act.put, List.setIfInBounds_toArray, List.set_cons_zero, List.set_cons_succ])
          refine PX.wpAnyY_one (i := 3) (o := ?_) (by kernel_rfl) ?_ (fun Kq hKq => ?_)
          rotate_left
          · simp only [List.getElem?_toArray, List.getElem?_cons_succ, List.getElem?_cons_zero]; rfl
          go_simp
          refine hKq.out _ _ (hHeld) (fun hHeld => ?_)
          clear hKq Kq
          (try simp only [Act.put, List.setIfInBounds_toArray, List.set_cons_zero, List.set_cons_succ])
          refine PX.wpAnyY_take (i := 4) (oi := ?_) (v := ?_) ?_ (by kernel_rfl) (by kernel_rfl) (by kernel_rfl) (by kernel_rfl) (by kernel_rfl) (fun _ _ _ h => h) (Or.inl ⟨?_, ?_⟩) (by assumption) ?_
          rotate_left 2
          · simp only [List.getElem?_toArray, List.getElem?_cons_succ, List.getElem?_cons_zero]; rfl
          · rfl
          · intro w hSw; (try dsimp only at hSw); have hC := fun (b o : Nat) (h : b < wn.heap.size) => Below.cell hSw (p := ⟨b, o, none⟩) h; go_simp <;> with_reducible rfl
          (try simp only [Act.put, List.setIfInBounds_toArray, List.set_cons_zero, List.set_cons_succ])
          refine PX.wpAnyY_take (i := 7) (oi := ?_) (v := ?_) ?_ (by kernel_rfl) (by kernel_rfl) (by kernel_rfl) (by kernel_rfl) (by kernel_rfl) (fun _ _ _ h => h) (Or.inl ⟨?_, ?_⟩) (by assumption) ?_
          rotate_left 2
          · simp only [List.getElem?_toArray, List.getElem?_cons_succ, List.getElem?_cons_zero]; rfl
          · rfl
          · intro w hSw; (try dsimp only at hSw); go_simp <;> with_reducible rfl
          (try simp only [Act.put, List.setIfInBounds_toArray, List.set_cons_zero, List.set_cons_succ])
          refine PX.wpAnyY_take (i := 8) (oi := ?_) (v := ?_) ?_ (by kernel_rfl) (by kernel_rfl) (by kernel_rfl) (by kernel_rfl) (by kernel_rfl) (fun _ _ _ h => h) (Or.inl ⟨?_, ?_⟩) (by assumption) ?_
          rotate_left 2
          · simp only [List.getElem?_toArray, List.getElem?_cons_succ, List.getElem?_cons_zero]; rfl
          · rfl
          · intro w hSw; (try dsimp only at hSw); have T8 := text_is w _ _ _ _ (RN.out.below (hSw.mono (HN.out.size))); go_simp <;> with_reducible rfl
          (try simp only [Act.put, List.setIfInBounds_toArray, List.set_cons_zero, List.set_cons_succ])
          refine PX.wpAnyY_one (i := 5) (o := ?_) (by kernel_rfl) ?_ (fun Kq hKq => ?_)
          rotate_left
          · simp only [List.getElem?_toArray, List.getElem?_cons_succ, List.getElem?_cons_zero]; rfl
          go_simp
          (with_reducible refine (CB.out _).mono ?_)
          rintro e u5 ⟨g5, rfl, hg5, hb5, bq⟩
          have H5 := Lib.hid (thence hHeld bq (Nat.le_refl _))
          have T5 := text_is u5 _ _ _ _ (hb5.rd HBL.out HBB.out)
          clear bq
          go_wp2_with fail
          refine hKq.out _ _ (H5.out) (fun hHeld => ?_)
          clear hKq Kq
          (try simp only [Act.put, List.setIfInBounds_toArray, List.set_cons_zero, List.set_cons_succ])
          refine PX.wpAnyY_one (i := 6) (o := ?_) (by kernel_rfl) ?_ (fun Kq hKq => ?_)
          rotate_left
          · simp only [List.getElem?_toArray, List.getElem?_cons_succ, List.getElem?_cons_zero]; rfl
          go_simp
          refine hKq.out _ _ (hHeld) (fun hHeld => ?_)
          clear hKq Kq
          (try simp only [Act.put, List.setIfInBounds_toArray, List.set_cons_zero, List.set_cons_succ])
          refine PX.wpAnyY_one (i := 9) (o := ?_) (by kernel_rfl) ?_ (fun Kq hKq => ?_)
          rotate_left
          · simp only [List.getElem?_toArray, List.getElem?_cons_succ, List.getElem?_cons_zero]; rfl
          go_simp
          refine hKq.out _ _ (hHeld) (fun hHeld => ?_)
          clear hKq Kq
          (try simp only [Act.put, List.setIfInBounds_toArray, List.set_cons_zero, List.set_cons_succ])
          refine PX.wpAnyY_one (i := 10) (o := ?_) (by kernel_rfl) ?_ (fun Kq hKq => ?_)
          rotate_left
          · simp only [List.getElem?_toArray, List.getElem?_cons_succ, List.getElem?_cons_zero]; rfl
          go_simp
          refine hKq.out _ _ (hHeld) (fun hHeld => ?_)
          clear hKq Kq
          (try simp only [Act.put, List.setIfInBounds_toArray, List.set_cons_zero, List.set_cons_succ])
          refine PX.wpAnyY_done (by kernel_rfl) ?_ _
          refine NoPanic.normal ?_
          replace BL := Lib.hid (BL.out.here H5.out)
          replace BN := Lib.hid (BN.out.here H5.out)
          have HU := Lib.hid (hgn.out.trans (H5.out.mono hgn.out.size))
          clear ltL ltN
          have BF : Hid (Bx ((((((((((u5.setCell ⟨w.heap.size, 0, none⟩ (.int .u32 (ni : Int))).setCell ⟨w.heap.size, 1, none⟩ (.int .u32 (nv : Int))).setCell ⟨w.heap.size, 2, none⟩ (.int .i64 (n9 : Int))).setCell ⟨w.heap.size, 3, none⟩ (.int .i64 (n10 : Int))).setCell ⟨w.heap.size, 4, none⟩ (.int .i64 (n11 : Int))).setCell ⟨w.heap.size, 5, none⟩ (.int .i64 (n12 : Int))).setCell ⟨w.heap.size, 6, none⟩ (.int .i64 (n13 : Int))).setCell ⟨w.heap.size, 7, none⟩ (.int .i64 (n14 : Int))).setCell ⟨w.heap.size, 8, none⟩ (.int .i64 (n15 : Int))).setCell ⟨w.heap.size, 9, none⟩ (.bool op)) w.heap.size [.int .u32 (ni : Int), .int .u32 (nv : Int), .int .i64 (n9 : Int), .int .i64 (n10 : Int), .int .i64 (n11 : Int), .int .i64 (n12 : Int), .int .i64 (n13 : Int), .int .i64 (n14 : Int), .int .i64 (n15 : Int), .bool op]) := ((((((((((BL.out.set 0 (.int .u32 (ni : Int))).set 1 (.int .u32 (nv : Int))).set 2 (.int .i64 (n9 : Int))).set 3 (.int .i64 (n10 : Int))).set 4 (.int .i64 (n11 : Int))).set 5 (.int .i64 (n12 : Int))).set 6 (.int .i64 (n13 : Int))).set 7 (.int .i64 (n14 : Int))).set 8 (.int .i64 (n15 : Int))).set 9 (.bool op))
          have HF : Hid (Below w.heap.size w ((((((((((u5.setCell ⟨w.heap.size, 0, none⟩ (.int .u32 (ni : Int))).setCell ⟨w.heap.size, 1, none⟩ (.int .u32 (nv : Int))).setCell ⟨w.heap.size, 2, none⟩ (.int .i64 (n9 : Int))).setCell ⟨w.heap.size, 3, none⟩ (.int .i64 (n10 : Int))).setCell ⟨w.heap.size, 4, none⟩ (.int .i64 (n11 : Int))).setCell ⟨w.heap.size, 5, none⟩ (.int .i64 (n12 : Int))).setCell ⟨w.heap.size, 6, none⟩ (.int .i64 (n13 : Int))).setCell ⟨w.heap.size, 7, none⟩ (.int .i64 (n14 : Int))).setCell ⟨w.heap.size, 8, none⟩ (.int .i64 (n15 : Int))).setCell ⟨w.heap.size, 9, none⟩ (.bool op))) := ((((((((((HU.out.setCell (Nat.le_refl _) (.int .u32 (ni : Int))).setCell (Nat.le_refl _) (.int .u32 (nv : Int))).setCell (Nat.le_refl _) (.int .i64 (n9 : Int))).setCell (Nat.le_refl _) (.int .i64 (n10 : Int))).setCell (Nat.le_refl _) (.int .i64 (n11 : Int))).setCell (Nat.le_refl _) (.int .i64 (n12 : Int))).setCell (Nat.le_refl _) (.int .i64 (n13 : Int))).setCell (Nat.le_refl _) (.int .i64 (n14 : Int))).setCell (Nat.le_refl _) (.int .i64 (n15 : Int))).setCell (Nat.le_refl _) (.bool op))
          clear hHeld
          obtain ⟨z0, z1, z2, z3, z4, z5, z6, z7, z8, z9⟩ := BN.out.ten
          obtain ⟨r0, r1, r2, r3, r4, r5, r6, r7, r8, r9⟩ := BL.out.ten
          obtain ⟨s0, s1, s2, s3, s4, s5, s6, s7, s8, s9⟩ := BL.out.froz10
          have ltL := BL.out.lt
          have ltN := BN.out.lt
          go_wp2_with fail
          clear z0 z1 z2 z3 z4 z5 z6 z7 z8 z9 r0 r1 r2 r3 r4 r5 r6 r7 r8 r9 s0 s1 s2 s3 s4 s5 s6 s7 s8 s9
          obtain ⟨q0, q1, q2, q3, q4, q5, q6, q7, q8, q9⟩ := BF.out.ten
          exact bodyPost_ret (v := .tuple #[labV ⟨ni, nv, (n9 : Int), (n10 : Int), (n11 : Int), (n12 : Int), (n13 : Int), (n14 : Int), (n15 : Int), op⟩, .int .i64 0]) (by simp [results, Try.results17, go_sem, q0, q1, q2, q3, q4, q5, q6, q7, q8, q9]; rfl) rfl ⟨rfl, HF.out⟩
        · have hn : ((str K).toList == (str m).toList) = false := by rw [str_two HBB.out HB.out]; exact decide_eq_false hk
          rw [decide_eq_false hk, if_neg (by decide)] at hx
          injection hx with hx1 hx2
          subst hx1 hx2
          clear hk
          refine wp_region_noPanic ?_
          refine PX.wp_region_y (fun w' => Below wn.heap.size wn w') [] (by kernel_rfl) (Below.refl _ _).drew (fun hHeld => ?_)
          refine PX.wpAnyY_take (i := 0) (oi := ?_) (v := ?_) ?_ (by kernel_rfl) (by kernel_rfl) (by kernel_rfl) (by kernel_rfl) (by kernel_rfl) (fun _ _ _ h => h) (Or.inl ⟨?_, ?_⟩) (by assumption) ?_
          rotate_left 2
          · simp only [List.getElem?_toArray, List.getElem?_cons_succ, List.getElem?_cons_zero]; rfl
          · rfl
          · intro w hSw; (try dsimp only at hSw); have hC := fun (b o : Nat) (h : b < wn.heap.size) => Below.cell hSw (p := ⟨b, o, none⟩) h; go_simp <;> with_reducible rfl
          (try simp only [Act.put, List.setIfInBounds_toArray, List.set_cons_zero, List.set_cons_succ])
          refine PX.wpAnyY_one (i := 1) (o := ?_) (by kernel_rfl) ?_ (fun Kq hKq => ?_)
          rotate_left
          · simp only [List.getElem?_toArray, List.getElem?_cons_succ, List.getElem?_cons_zero]; rfl
          go_simp
          (with_reducible refine (CM.out _).mono ?_)
          rintro e u1 ⟨rfl, bq⟩
          have H1 := Lib.hid (thence hHeld bq (Nat.le_refl _))
          clear bq
          go_wp2_with fail
          refine hKq.out _ _ (H1.out) (fun hHeld => ?_)
          clear hKq Kq
          (try simp only [Act.put, List.setIfInBounds_toArray, List.set_cons_zero, List.set_cons_succ])
          refine PX.wpAnyY_one (i := 2) (o := ?_) (by kernel_rfl) ?_ (fun Kq hKq => ?_)
          rotate_left
          · simp only [List.getElem?_toArray, List.getElem?_cons_succ, List.getElem?_cons_zero]; rfl
          go_simp
          refine hKq.out _ _ (hHeld) (fun hHeld => ?_)
          clear hKq Kq
          (try simp only [Act.put, List.setIfInBounds_toArray, List.set_cons_zero, List.set_cons_succ])
          refine PX.wpAnyY_one (i := 3) (o := ?_) (by kernel_rfl) ?_ (fun Kq hKq => ?_)
          rotate_left
          · simp only [List.getElem?_toArray, List.getElem?_cons_succ, List.getElem?_cons_zero]; rfl
          go_simp
          refine hKq.out _ _ (hHeld) (fun hHeld => ?_)
          clear hKq Kq
          (try simp only [Act.put, List.setIfInBounds_toArray, List.set_cons_zero, List.set_cons_succ])
          refine PX.wpAnyY_take (i := 4) (oi := ?_) (v := ?_) ?_ (by kernel_rfl) (by kernel_rfl) (by kernel_rfl) (by kernel_rfl) (by kernel_rfl) (fun _ _ _ h => h) (Or.inl ⟨?_, ?_⟩) (by assumption) ?_
          rotate_left 2
          · simp only [List.getElem?_toArray, List.getElem?_cons_succ, List.getElem?_cons_zero]; rfl
          · rfl
          · intro w hSw; (try dsimp only at hSw); have hC := fun (b o : Nat) (h : b < wn.heap.size) => Below.cell hSw (p := ⟨b, o, none⟩) h; go_simp <;> with_reducible rfl
          (try simp only [Act.put, List.setIfInBounds_toArray, List.set_cons_zero, List.set_cons_succ])
          refine PX.wpAnyY_take (i := 7) (oi := ?_) (v := ?_) ?_ (by kernel_rfl) (by kernel_rfl) (by kernel_rfl) (by kernel_rfl) (by kernel_rfl) (fun _ _ _ h => h) (Or.inl ⟨?_, ?_⟩) (by assumption) ?_
          rotate_left 2
          · simp only [List.getElem?_toArray, List.getElem?_cons_succ, List.getElem?_cons_zero]; rfl
          · rfl
          · intro w hSw; (try dsimp only at hSw); go_simp <;> with_reducible rfl
          (try simp only [Act.put, List.setIfInBounds_toArray, List.set_cons_zero, List.set_cons_succ])
          refine PX.wpAnyY_take (i := 8) (oi := ?_) (v := ?_) ?_ (by kernel_rfl) (by kernel_rfl) (by kernel_rfl) (by kernel_rfl) (by kernel_rfl) (fun _ _ _ h => h) (Or.inl ⟨?_, ?_⟩) (by assumption) ?_
          rotate_left 2
          · simp only [List.getElem?_toArray, List.getElem?_cons_succ, List.getElem?_cons_zero]; rfl
          · rfl
          · intro w hSw; (try dsimp only at hSw); have T8 := text_is w _ _ _ _ (RN.out.below (hSw.mono (HN.out.size))); go_simp <;> with_reducible rfl
          (try simp only [Act.put, List.setIfInBounds_toArray, List.set_cons_zero, List.set_cons_succ])
          refine PX.wpAnyY_one (i := 5) (o := ?_) (by kernel_rfl) ?_ (fun Kq hKq => ?_)
          rotate_left
          · simp only [List.getElem?_toArray, List.getElem?_cons_succ, List.getElem?_cons_zero]; rfl
          go_simp
          (with_reducible refine (CB.out _).mono ?_)
          rintro e u5 ⟨g5, rfl, hg5, hb5, bq⟩
          have H5 := Lib.hid (thence hHeld bq (Nat.le_refl _))
          have T5 := text_is u5 _ _ _ _ (hb5.rd HBL.out HBB.out)
          clear bq
          go_wp2_with fail
          refine hKq.out _ _ (H5.out) (fun hHeld => ?_)
          clear hKq Kq
          (try simp only [Act.put, List.setIfInBounds_toArray, List.set_cons_zero, List.set_cons_succ])
          refine PX.wpAnyY_one (i := 6) (o := ?_) (by kernel_rfl) ?_ (fun Kq hKq => ?_)
          rotate_left
          · simp only [List.getElem?_toArray, List.getElem?_cons_succ, List.getElem?_cons_zero]; rfl
          go_simp
          refine hKq.out _ _ (hHeld) (fun hHeld => ?_)
          clear hKq Kq
          (try simp only [Act.put, List.setIfInBounds_toArray, List.set_cons_zero, List.set_cons_succ])
          refine PX.wpAnyY_one (i := 9) (o := ?_) (by kernel_rfl) ?_ (fun Kq hKq => ?_)
          rotate_left
          · simp only [List.getElem?_toArray, List.getElem?_cons_succ, List.getElem?_cons_zero]; rfl
          go_simp
          refine hKq.out _ _ (hHeld) (fun hHeld => ?_)
          clear hKq Kq
          (try simp only [Act.put, List.setIfInBounds_toArray, List.set_cons_zero, List.set_cons_succ])
          refine PX.wpAnyY_one (i := 10) (o := ?_) (by kernel_rfl) ?_ (fun Kq hKq => ?_)
          rotate_left
          · simp only [List.getElem?_toArray, List.getElem?_cons_succ, List.getElem?_cons_zero]; rfl
          go_simp
          refine hKq.out _ _ (hHeld) (fun hHeld => ?_)
          clear hKq Kq
          (try simp only [Act.put, List.setIfInBounds_toArray, List.set_cons_zero, List.set_cons_succ])
          refine PX.wpAnyY_done (by kernel_rfl) ?_ _
          refine NoPanic.normal ?_
          replace BL := Lib.hid (BL.out.here H5.out)
          replace BN := Lib.hid (BN.out.here H5.out)
          have HU := Lib.hid (hgn.out.trans (H5.out.mono hgn.out.size))
          clear ltL ltN
          have BF : Hid (Bx ((((((((((u5.setCell ⟨w.heap.size, 0, none⟩ (.int .u32 0)).setCell ⟨w.heap.size, 1, none⟩ (.int .u32 0)).setCell ⟨w.heap.size, 2, none⟩ (.int .i64 0)).setCell ⟨w.heap.size, 3, none⟩ (.int .i64 0)).setCell ⟨w.heap.size, 4, none⟩ (.int .i64 0)).setCell ⟨w.heap.size, 5, none⟩ (.int .i64 0)).setCell ⟨w.heap.size, 6, none⟩ (.int .i64 0)).setCell ⟨w.heap.size, 7, none⟩ (.int .i64 0)).setCell ⟨w.heap.size, 8, none⟩ (.int .i64 0)).setCell ⟨w.heap.size, 9, none⟩ (.bool false)) w.heap.size [.int .u32 0, .int .u32 0, .int .i64 0, .int .i64 0, .int .i64 0, .int .i64 0, .int .i64 0, .int .i64 0, .int .i64 0, .bool false]) := ((((((((((BL.out.set 0 (.int .u32 0)).set 1 (.int .u32 0)).set 2 (.int .i64 0)).set 3 (.int .i64 0)).set 4 (.int .i64 0)).set 5 (.int .i64 0)).set 6 (.int .i64 0)).set 7 (.int .i64 0)).set 8 (.int .i64 0)).set 9 (.bool false))
          have HF : Hid (Below w.heap.size w ((((((((((u5.setCell ⟨w.heap.size, 0, none⟩ (.int .u32 0)).setCell ⟨w.heap.size, 1, none⟩ (.int .u32 0)).setCell ⟨w.heap.size, 2, none⟩ (.int .i64 0)).setCell ⟨w.heap.size, 3, none⟩ (.int .i64 0)).setCell ⟨w.heap.size, 4, none⟩ (.int .i64 0)).setCell ⟨w.heap.size, 5, none⟩ (.int .i64 0)).setCell ⟨w.heap.size, 6, none⟩ (.int .i64 0)).setCell ⟨w.heap.size, 7, none⟩ (.int .i64 0)).setCell ⟨w.heap.size, 8, none⟩ (.int .i64 0)).setCell ⟨w.heap.size, 9, none⟩ (.bool false))) := ((((((((((HU.out.setCell (Nat.le_refl _) (.int .u32 0)).setCell (Nat.le_refl _) (.int .u32 0)).setCell (Nat.le_refl _) (.int .i64 0)).setCell (Nat.le_refl _) (.int .i64 0)).setCell (Nat.le_refl _) (.int .i64 0)).setCell (Nat.le_refl _) (.int .i64 0)).setCell (Nat.le_refl _) (.int .i64 0)).setCell (Nat.le_refl _) (.int .i64 0)).setCell (Nat.le_refl _) (.int .i64 0)).setCell (Nat.le_refl _) (.bool false))
          clear hHeld
          obtain ⟨z0, z1, z2, z3, z4, z5, z6, z7, z8, z9⟩ := BN.out.ten
          obtain ⟨r0, r1, r2, r3, r4, r5, r6, r7, r8, r9⟩ := BL.out.ten
          obtain ⟨s0, s1, s2, s3, s4, s5, s6, s7, s8, s9⟩ := BL.out.froz10
          have ltL := BL.out.lt
          have ltN := BN.out.lt
          go_wp2_with fail
          clear z0 z1 z2 z3 z4 z5 z6 z7 z8 z9 r0 r1 r2 r3 r4 r5 r6 r7 r8 r9 s0 s1 s2 s3 s4 s5 s6 s7 s8 s9
          obtain ⟨q0, q1, q2, q3, q4, q5, q6, q7, q8, q9⟩ := BF.out.ten
          exact bodyPost_ret (v := .tuple #[labV Lab.zero, .int .i64 90]) (by simp [results, Try.results17, go_sem, q0, q1, q2, q3, q4, q5, q6, q7, q8, q9]; rfl) rfl ⟨rfl, HF.out⟩

theorem refLRead_any (a : Option Addr) (len cap : Nat) (l : List Nat) (w : World) (hr : Rd w.heap.size w a len cap l) :
    Calls Try.prog 17 #[.slice a len cap] w fun e w' => e = .returned (.tuple #[labV (LB.rd l).1, .int .i64 (((LB.rd l).2 : Nat) : Int)]) ∧ Below w.heap.size w w' := by
  by_cases h : l.length = 0 ∨ l.length = 128
  · exact refLRead_block a len cap l w hr h
  · exact refLRead_text a len cap l w hr (by omega) (by omega)
end Go.Proofs.Ytleaphlignfkjaa.PW
