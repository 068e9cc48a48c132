/-
  Contracts of the document's own answers of layer 9: a label's block, written and read.
-/
import Derived.Test.YtleaphlignfkjaaLabelMay
import Derived.Test.YtleaphlignfkjaaLabelOwn
namespace Go.Proofs.Ytleaphlignfkjaa.PW
open Go.RowKit
open SK (Cfg)
open LB (Lab)
set_option linter.unusedVariables false
set_option linter.unusedSimpArgs false
set_option maxRecDepth 100000

set_option maxHeartbeats 2000000 in
/-- Of numbers that fit a byte each. -/
theorem refLBlock_nat (id ev mem chunk rows log me done : Nat) (lost : Int) (op : Bool) (w : World) (hid : id < 4294967296) (hev : ev < 4294967296) (h1 : mem < 256) (h2 : chunk < 256) (h3 : rows < 256) (h4 : log < 256) (h5 : me < 256) (h6 : lost < 256) (h7 : done < 256) :
    Calls Try.prog 30 #[.agg #[.int .u32 (id : Int), .int .u32 (ev : Int), .int .i64 (mem : Int), .int .i64 (chunk : Int), .int .i64 (rows : Int), .int .i64 (log : Int), .int .i64 (me : Int), .int .i64 lost, .int .i64 (done : Int), .bool op]] w fun e w' => ∃ g, e = .returned (.slice (some ⟨g, 0, none⟩) 128 128) ∧ w.heap.size ≤ g ∧ Blk w' g (Lab.block ⟨id, ev, (mem : Int), (chunk : Int), (rows : Int), (log : Int), (me : Int), lost, (done : Int), op⟩) ∧ Below w.heap.size w w' := by
  have e1 : IntKind.u8.wrap (mem : Int) = (mem : Int) := by rw [IntKind.wrap_u8']; omega
  have e2 : IntKind.u8.wrap (chunk : Int) = (chunk : Int) := by rw [IntKind.wrap_u8']; omega
  have e3 : IntKind.u8.wrap (rows : Int) = (rows : Int) := by rw [IntKind.wrap_u8']; omega
  have e4 : IntKind.u8.wrap (log : Int) = (log : Int) := by rw [IntKind.wrap_u8']; omega
  have e5 : IntKind.u8.wrap (me : Int) = (me : Int) := by rw [IntKind.wrap_u8']; omega
  have e7 : IntKind.u8.wrap (done : Int) = (done : Int) := by rw [IntKind.wrap_u8']; omega
  have CF := Lib.hid refFour_any
  have HI := Lib.hid hid
  have HE := Lib.hid hev
  clear hid hev
  by_cases hl : 0 ≤ lost
  · obtain ⟨ln, rfl⟩ := Int.eq_ofNat_of_zero_le hl
    have hw : LB.wire (ln : Int) = ln := by unfold LB.wire; rw [if_pos hl]; omega
    have h6' : ln < 256 := by omega
    have e6 : IntKind.u8.wrap (ln : Int) = (ln : Int) := by rw [IntKind.wrap_u8']; omega
    cases op with
    | true =>
      have HD : Hid (Lab.block ⟨id, ev, (mem : Int), (chunk : Int), (rows : Int), (log : Int), (me : Int), (ln : Int), (done : Int), true⟩ = SL.sld ([76] ++ PM.own4 id ++ PM.own4 ev ++ [mem, chunk, rows, log, me, ln, done, 1])) := by
        show SL.sld ([76] ++ PM.own4 id ++ PM.own4 ev ++ [mem, chunk, rows, log, me, LB.wire (ln : Int), done, 1]) = _
        rw [hw]
      rw [HD.out]
      clear hw HD
      have S1 : Hid (Bytes [mem, chunk, rows, log, me, ln, done, 1]) := by
        intro x hx
        simp only [List.mem_cons, List.not_mem_nil, or_false] at hx
        rcases hx with rfl | rfl | rfl | rfl | rfl | rfl | rfl | rfl <;> first | assumption | decide
      clear h1 h2 h3 h4 h5 h6 h7
      have B0 : Hid (Below w.heap.size w (w.alloc (.cells #[.int .u32 (id : Int), .int .u32 (ev : Int), .int .i64 (mem : Int), .int .i64 (chunk : Int), .int .i64 (rows : Int), .int .i64 (log : Int), .int .i64 (me : Int), .int .i64 (ln : Int), .int .i64 (done : Int), .bool true] 28))) := (Below.refl _ _).alloc (Nat.le_refl _) _
      have BX := Lib.hid (Bx.new w [.int .u32 (id : Int), .int .u32 (ev : Int), .int .i64 (mem : Int), .int .i64 (chunk : Int), .int .i64 (rows : Int), .int .i64 (log : Int), .int .i64 (me : Int), .int .i64 (ln : Int), .int .i64 (done : Int), .bool true] 28)
      go_enter Try.func30, Try.ntmps30
      go_wp2_with fail
      replace BX : Hid (Bx (w.alloc (.cells #[.int .u32 (id : Int), .int .u32 (ev : Int), .int .i64 (mem : Int), .int .i64 (chunk : Int), .int .i64 (rows : Int), .int .i64 (log : Int), .int .i64 (me : Int), .int .i64 (ln : Int), .int .i64 (done : Int), .bool true] 28)) w.heap.size [.int .u32 (id : Int), .int .u32 (ev : Int), .int .i64 (mem : Int), .int .i64 (chunk : Int), .int .i64 (rows : Int), .int .i64 (log : Int), .int .i64 (me : Int), .int .i64 (ln : Int), .int .i64 (done : Int), .bool true]) := BX
      have hsz : Hid ((w.alloc (.cells #[.int .u32 (id : Int), .int .u32 (ev : Int), .int .i64 (mem : Int), .int .i64 (chunk : Int), .int .i64 (rows : Int), .int .i64 (log : Int), .int .i64 (me : Int), .int .i64 (ln : Int), .int .i64 (done : Int), .bool true] 28)).heap.size = w.heap.size + 1) := by show _ = _; simp
      generalize w.alloc (.cells #[.int .u32 (id : Int), .int .u32 (ev : Int), .int .i64 (mem : Int), .int .i64 (chunk : Int), .int .i64 (rows : Int), .int .i64 (log : Int), .int .i64 (me : Int), .int .i64 (ln : Int), .int .i64 (done : Int), .bool true] 28) = W0 at *
      have HZ : Hid (w.heap.size + 1 ≤ W0.heap.size) := Nat.le_of_eq hsz.out.symm
      have O1 : Hid (Own (W0.alloc (.cells #[.int .u8 76] 5)) (w.heap.size + 1) (.slice (some ⟨w.heap.size + 1, 0, none⟩) 1 1) [76]) := by
        have := own_lit W0 W0.heap.size [76] 1 rfl (by decide) (Nat.le_refl _) #[.int .u8 76] rfl
        rw [hsz.out] at this
        exact this
      have B1 : Hid (Below (w.heap.size + 1) W0 (W0.alloc (.cells #[.int .u8 76] 5))) := (Below.refl _ _).alloc HZ.out _
      generalize W0.alloc (.cells #[.int .u8 76] 5) = W1 at *
      (with_reducible refine (CF.out id _ HI.out).mono ?_)
      rintro e w2 ⟨fa2, rfl, fr, b2⟩
      obtain ⟨x3, k3, w3, r3, o3, d3, b3⟩ := append_own (O1.out.here b2) (by intro x hx; simp at hx; omega) fr (by simp [PM.own4]) (Nat.le_trans HZ.out (Nat.le_trans B1.out.size b2.size)) 5 (by simp [PM.own4])
      have B3 := Lib.hid ((thence B1.out b2 HZ.out).trans b3)
      have R3 := Lib.hid r3
      have O3 := Lib.hid o3
      have D3 := Lib.hid d3
      clear b2 r3 o3 d3 b3 fr
      obtain ⟨c0, c1, c2, c3, c4, c5, c6, c7, c8, c9⟩ := (BX.out.below B3.out (Nat.lt_succ_self _)).ten
      have ltX := (BX.out.below B3.out (Nat.lt_succ_self _)).lt
      go_wp2_with (at_builtin; refine wpList_append_run rfl _ _ _ _ rfl R3.out ?_; clear R3)
      clear c0 c1 c2 c3 c4 c5 c6 c7 c8 c9 ltX
      (with_reducible refine (CF.out ev _ HE.out).mono ?_)
      rintro e w4 ⟨fa4, rfl, fr, b2⟩
      obtain ⟨x5, k5, w5, r3, o3, d3, b3⟩ := append_own (O3.out.here b2) D3.out.byt fr (by simp [PM.own4]) (Nat.le_trans HZ.out (Nat.le_trans B3.out.size b2.size)) 9 (by simp [PM.own4])
      have B5 := Lib.hid ((thence B3.out b2 HZ.out).trans b3)
      have R5 := Lib.hid r3
      have O5 := Lib.hid o3
      have D5 := Lib.hid d3
      clear b2 r3 o3 d3 b3 fr
      obtain ⟨c0, c1, c2, c3, c4, c5, c6, c7, c8, c9⟩ := (BX.out.below B5.out (Nat.lt_succ_self _)).ten
      have ltX := (BX.out.below B5.out (Nat.lt_succ_self _)).lt
      have hl : Below w5.heap.size w5 (w5.alloc (.cells #[.int .u8 (mem : Int), .int .u8 (chunk : Int), .int .u8 (rows : Int), .int .u8 (log : Int), .int .u8 (me : Int), .int .u8 (ln : Int), .int .u8 (done : Int), .int .u8 1] 5)) := (Below.refl _ _).alloc (Nat.le_refl _) _
      obtain ⟨x7, k7, w7, r7, o7, d7, b7⟩ := append_own (O5.out.here hl) D5.out.byt (rd_lit w5 [mem, chunk, rows, log, me, ln, done, 1] #[.int .u8 (mem : Int), .int .u8 (chunk : Int), .int .u8 (rows : Int), .int .u8 (log : Int), .int .u8 (me : Int), .int .u8 (ln : Int), .int .u8 (done : Int), .int .u8 1] 8 8 (0, 0) rfl rfl (by simp) S1.out (by show 8 ≤ maxLen; unfold maxLen; decide)) (by simp [PM.own4]) (Nat.le_trans HZ.out (Nat.le_trans B5.out.size hl.size)) 17 (by simp [PM.own4])
      have B7 := Lib.hid ((B5.out.trans (hl.mono (Nat.le_trans HZ.out B5.out.size))).trans b7)
      have R7 := Lib.hid r7
      have D7 := Lib.hid d7
      clear r7 o7 d7 b7 hl
      go_wp2_with (first | (at_builtin; refine wpList_append_run rfl _ _ _ _ rfl R5.out ?_; clear R5) | (at_builtin; refine wpList_append_run rfl _ _ _ _ rfl R7.out ?_; clear R7))
      clear c0 c1 c2 c3 c4 c5 c6 c7 c8 c9 ltX
      have CS := Lib.hid (refSealed_any x7 17 k7 _ w7 D7.out (by simp [PM.own4]))
      (with_reducible refine CS.out.mono ?_)
      rintro e w8 ⟨g8, rfl, hg8, hblk, b8⟩
      go_wp2_with fail
      go_ret
      exact ⟨g8, rfl, Nat.le_trans (Nat.le_trans (Nat.le_succ _) (Nat.le_trans HZ.out B7.out.size)) hg8, hblk, B0.out.trans ((thence B7.out b8 HZ.out).mono (Nat.le_succ _))⟩
    | false =>
      have HD : Hid (Lab.block ⟨id, ev, (mem : Int), (chunk : Int), (rows : Int), (log : Int), (me : Int), (ln : Int), (done : Int), false⟩ = SL.sld ([76] ++ PM.own4 id ++ PM.own4 ev ++ [mem, chunk, rows, log, me, ln, done, 0])) := by
        show SL.sld ([76] ++ PM.own4 id ++ PM.own4 ev ++ [mem, chunk, rows, log, me, LB.wire (ln : Int), done, 0]) = _
        rw [hw]
      rw [HD.out]
      clear hw HD
      have S1 : Hid (Bytes [mem, chunk, rows, log, me, ln, done, 0]) := by
        intro x hx
        simp only [List.mem_cons, List.not_mem_nil, or_false] at hx
        rcases hx with rfl | rfl | rfl | rfl | rfl | rfl | rfl | rfl <;> first | assumption | decide
      clear h1 h2 h3 h4 h5 h6 h7
      have B0 : Hid (Below w.heap.size w (w.alloc (.cells #[.int .u32 (id : Int), .int .u32 (ev : Int), .int .i64 (mem : Int), .int .i64 (chunk : Int), .int .i64 (rows : Int), .int .i64 (log : Int), .int .i64 (me : Int), .int .i64 (ln : Int), .int .i64 (done : Int), .bool false] 28))) := (Below.refl _ _).alloc (Nat.le_refl _) _
      have BX := Lib.hid (Bx.new w [.int .u32 (id : Int), .int .u32 (ev : Int), .int .i64 (mem : Int), .int .i64 (chunk : Int), .int .i64 (rows : Int), .int .i64 (log : Int), .int .i64 (me : Int), .int .i64 (ln : Int), .int .i64 (done : Int), .bool false] 28)
      go_enter Try.func30, Try.ntmps30
      go_wp2_with fail
      replace BX : Hid (Bx (w.alloc (.cells #[.int .u32 (id : Int), .int .u32 (ev : Int), .int .i64 (mem : Int), .int .i64 (chunk : Int), .int .i64 (rows : Int), .int .i64 (log : Int), .int .i64 (me : Int), .int .i64 (ln : Int), .int .i64 (done : Int), .bool false] 28)) w.heap.size [.int .u32 (id : Int), .int .u32 (ev : Int), .int .i64 (mem : Int), .int .i64 (chunk : Int), .int .i64 (rows : Int), .int .i64 (log : Int), .int .i64 (me : Int), .int .i64 (ln : Int), .int .i64 (done : Int), .bool false]) := BX
      have hsz : Hid ((w.alloc (.cells #[.int .u32 (id : Int), .int .u32 (ev : Int), .int .i64 (mem : Int), .int .i64 (chunk : Int), .int .i64 (rows : Int), .int .i64 (log : Int), .int .i64 (me : Int), .int .i64 (ln : Int), .int .i64 (done : Int), .bool false] 28)).heap.size = w.heap.size + 1) := by show _ = _; simp
      generalize w.alloc (.cells #[.int .u32 (id : Int), .int .u32 (ev : Int), .int .i64 (mem : Int), .int .i64 (chunk : Int), .int .i64 (rows : Int), .int .i64 (log : Int), .int .i64 (me : Int), .int .i64 (ln : Int), .int .i64 (done : Int), .bool false] 28) = W0 at *
      have HZ : Hid (w.heap.size + 1 ≤ W0.heap.size) := Nat.le_of_eq hsz.out.symm
      have O1 : Hid (Own (W0.alloc (.cells #[.int .u8 76] 5)) (w.heap.size + 1) (.slice (some ⟨w.heap.size + 1, 0, none⟩) 1 1) [76]) := by
        have := own_lit W0 W0.heap.size [76] 1 rfl (by decide) (Nat.le_refl _) #[.int .u8 76] rfl
        rw [hsz.out] at this
        exact this
      have B1 : Hid (Below (w.heap.size + 1) W0 (W0.alloc (.cells #[.int .u8 76] 5))) := (Below.refl _ _).alloc HZ.out _
      generalize W0.alloc (.cells #[.int .u8 76] 5) = W1 at *
      (with_reducible refine (CF.out id _ HI.out).mono ?_)
      rintro e w2 ⟨fa2, rfl, fr, b2⟩
      obtain ⟨x3, k3, w3, r3, o3, d3, b3⟩ := append_own (O1.out.here b2) (by intro x hx; simp at hx; omega) fr (by simp [PM.own4]) (Nat.le_trans HZ.out (Nat.le_trans B1.out.size b2.size)) 5 (by simp [PM.own4])
      have B3 := Lib.hid ((thence B1.out b2 HZ.out).trans b3)
      have R3 := Lib.hid r3
      have O3 := Lib.hid o3
      have D3 := Lib.hid d3
      clear b2 r3 o3 d3 b3 fr
      obtain ⟨c0, c1, c2, c3, c4, c5, c6, c7, c8, c9⟩ := (BX.out.below B3.out (Nat.lt_succ_self _)).ten
      have ltX := (BX.out.below B3.out (Nat.lt_succ_self _)).lt
      go_wp2_with (at_builtin; refine wpList_append_run rfl _ _ _ _ rfl R3.out ?_; clear R3)
      clear c0 c1 c2 c3 c4 c5 c6 c7 c8 c9 ltX
      (with_reducible refine (CF.out ev _ HE.out).mono ?_)
      rintro e w4 ⟨fa4, rfl, fr, b2⟩
      obtain ⟨x5, k5, w5, r3, o3, d3, b3⟩ := append_own (O3.out.here b2) D3.out.byt fr (by simp [PM.own4]) (Nat.le_trans HZ.out (Nat.le_trans B3.out.size b2.size)) 9 (by simp [PM.own4])
      have B5 := Lib.hid ((thence B3.out b2 HZ.out).trans b3)
      have R5 := Lib.hid r3
      have O5 := Lib.hid o3
      have D5 := Lib.hid d3
      clear b2 r3 o3 d3 b3 fr
      obtain ⟨c0, c1, c2, c3, c4, c5, c6, c7, c8, c9⟩ := (BX.out.below B5.out (Nat.lt_succ_self _)).ten
      have ltX := (BX.out.below B5.out (Nat.lt_succ_self _)).lt
      have hl : Below w5.heap.size w5 (w5.alloc (.cells #[.int .u8 (mem : Int), .int .u8 (chunk : Int), .int .u8 (rows : Int), .int .u8 (log : Int), .int .u8 (me : Int), .int .u8 (ln : Int), .int .u8 (done : Int), .int .u8 0] 5)) := (Below.refl _ _).alloc (Nat.le_refl _) _
      obtain ⟨x7, k7, w7, r7, o7, d7, b7⟩ := append_own (O5.out.here hl) D5.out.byt (rd_lit w5 [mem, chunk, rows, log, me, ln, done, 0] #[.int .u8 (mem : Int), .int .u8 (chunk : Int), .int .u8 (rows : Int), .int .u8 (log : Int), .int .u8 (me : Int), .int .u8 (ln : Int), .int .u8 (done : Int), .int .u8 0] 8 8 (0, 0) rfl rfl (by simp) S1.out (by show 8 ≤ maxLen; unfold maxLen; decide)) (by simp [PM.own4]) (Nat.le_trans HZ.out (Nat.le_trans B5.out.size hl.size)) 17 (by simp [PM.own4])
      have B7 := Lib.hid ((B5.out.trans (hl.mono (Nat.le_trans HZ.out B5.out.size))).trans b7)
      have R7 := Lib.hid r7
      have D7 := Lib.hid d7
      clear r7 o7 d7 b7 hl
      go_wp2_with (first | (at_builtin; refine wpList_append_run rfl _ _ _ _ rfl R5.out ?_; clear R5) | (at_builtin; refine wpList_append_run rfl _ _ _ _ rfl R7.out ?_; clear R7))
      clear c0 c1 c2 c3 c4 c5 c6 c7 c8 c9 ltX
      have CS := Lib.hid (refSealed_any x7 17 k7 _ w7 D7.out (by simp [PM.own4]))
      (with_reducible refine CS.out.mono ?_)
      rintro e w8 ⟨g8, rfl, hg8, hblk, b8⟩
      go_wp2_with fail
      go_ret
      exact ⟨g8, rfl, Nat.le_trans (Nat.le_trans (Nat.le_succ _) (Nat.le_trans HZ.out B7.out.size)) hg8, hblk, B0.out.trans ((thence B7.out b8 HZ.out).mono (Nat.le_succ _))⟩
  · have hw : LB.wire lost = 255 := by unfold LB.wire; rw [if_neg hl]
    have hd : decide (0 ≤ lost) = false := by simp; omega
    have hn : lost < 0 := by omega
    cases op with
    | true =>
      have HD : Hid (Lab.block ⟨id, ev, (mem : Int), (chunk : Int), (rows : Int), (log : Int), (me : Int), lost, (done : Int), true⟩ = SL.sld ([76] ++ PM.own4 id ++ PM.own4 ev ++ [mem, chunk, rows, log, me, 255, done, 1])) := by
        show SL.sld ([76] ++ PM.own4 id ++ PM.own4 ev ++ [mem, chunk, rows, log, me, LB.wire lost, done, 1]) = _
        rw [hw]
      rw [HD.out]
      clear hw HD
      have S1 : Hid (Bytes [mem, chunk, rows, log, me, 255, done, 1]) := by
        intro x hx
        simp only [List.mem_cons, List.not_mem_nil, or_false] at hx
        rcases hx with rfl | rfl | rfl | rfl | rfl | rfl | rfl | rfl <;> first | assumption | decide
      clear h1 h2 h3 h4 h5 h6 h7
      have B0 : Hid (Below w.heap.size w (w.alloc (.cells #[.int .u32 (id : Int), .int .u32 (ev : Int), .int .i64 (mem : Int), .int .i64 (chunk : Int), .int .i64 (rows : Int), .int .i64 (log : Int), .int .i64 (me : Int), .int .i64 lost, .int .i64 (done : Int), .bool true] 28))) := (Below.refl _ _).alloc (Nat.le_refl _) _
      have BX := Lib.hid (Bx.new w [.int .u32 (id : Int), .int .u32 (ev : Int), .int .i64 (mem : Int), .int .i64 (chunk : Int), .int .i64 (rows : Int), .int .i64 (log : Int), .int .i64 (me : Int), .int .i64 lost, .int .i64 (done : Int), .bool true] 28)
      go_enter Try.func30, Try.ntmps30
      go_wp2_with fail
      replace BX : Hid (Bx (w.alloc (.cells #[.int .u32 (id : Int), .int .u32 (ev : Int), .int .i64 (mem : Int), .int .i64 (chunk : Int), .int .i64 (rows : Int), .int .i64 (log : Int), .int .i64 (me : Int), .int .i64 lost, .int .i64 (done : Int), .bool true] 28)) w.heap.size [.int .u32 (id : Int), .int .u32 (ev : Int), .int .i64 (mem : Int), .int .i64 (chunk : Int), .int .i64 (rows : Int), .int .i64 (log : Int), .int .i64 (me : Int), .int .i64 lost, .int .i64 (done : Int), .bool true]) := BX
      have hsz : Hid ((w.alloc (.cells #[.int .u32 (id : Int), .int .u32 (ev : Int), .int .i64 (mem : Int), .int .i64 (chunk : Int), .int .i64 (rows : Int), .int .i64 (log : Int), .int .i64 (me : Int), .int .i64 lost, .int .i64 (done : Int), .bool true] 28)).heap.size = w.heap.size + 1) := by show _ = _; simp
      generalize w.alloc (.cells #[.int .u32 (id : Int), .int .u32 (ev : Int), .int .i64 (mem : Int), .int .i64 (chunk : Int), .int .i64 (rows : Int), .int .i64 (log : Int), .int .i64 (me : Int), .int .i64 lost, .int .i64 (done : Int), .bool true] 28) = W0 at *
      have HZ : Hid (w.heap.size + 1 ≤ W0.heap.size) := Nat.le_of_eq hsz.out.symm
      have O1 : Hid (Own (W0.alloc (.cells #[.int .u8 76] 5)) (w.heap.size + 1) (.slice (some ⟨w.heap.size + 1, 0, none⟩) 1 1) [76]) := by
        have := own_lit W0 W0.heap.size [76] 1 rfl (by decide) (Nat.le_refl _) #[.int .u8 76] rfl
        rw [hsz.out] at this
        exact this
      have B1 : Hid (Below (w.heap.size + 1) W0 (W0.alloc (.cells #[.int .u8 76] 5))) := (Below.refl _ _).alloc HZ.out _
      generalize W0.alloc (.cells #[.int .u8 76] 5) = W1 at *
      (with_reducible refine (CF.out id _ HI.out).mono ?_)
      rintro e w2 ⟨fa2, rfl, fr, b2⟩
      obtain ⟨x3, k3, w3, r3, o3, d3, b3⟩ := append_own (O1.out.here b2) (by intro x hx; simp at hx; omega) fr (by simp [PM.own4]) (Nat.le_trans HZ.out (Nat.le_trans B1.out.size b2.size)) 5 (by simp [PM.own4])
      have B3 := Lib.hid ((thence B1.out b2 HZ.out).trans b3)
      have R3 := Lib.hid r3
      have O3 := Lib.hid o3
      have D3 := Lib.hid d3
      clear b2 r3 o3 d3 b3 fr
      obtain ⟨c0, c1, c2, c3, c4, c5, c6, c7, c8, c9⟩ := (BX.out.below B3.out (Nat.lt_succ_self _)).ten
      have ltX := (BX.out.below B3.out (Nat.lt_succ_self _)).lt
      go_wp2_with (at_builtin; refine wpList_append_run rfl _ _ _ _ rfl R3.out ?_; clear R3)
      clear c0 c1 c2 c3 c4 c5 c6 c7 c8 c9 ltX
      (with_reducible refine (CF.out ev _ HE.out).mono ?_)
      rintro e w4 ⟨fa4, rfl, fr, b2⟩
      obtain ⟨x5, k5, w5, r3, o3, d3, b3⟩ := append_own (O3.out.here b2) D3.out.byt fr (by simp [PM.own4]) (Nat.le_trans HZ.out (Nat.le_trans B3.out.size b2.size)) 9 (by simp [PM.own4])
      have B5 := Lib.hid ((thence B3.out b2 HZ.out).trans b3)
      have R5 := Lib.hid r3
      have O5 := Lib.hid o3
      have D5 := Lib.hid d3
      clear b2 r3 o3 d3 b3 fr
      obtain ⟨c0, c1, c2, c3, c4, c5, c6, c7, c8, c9⟩ := (BX.out.below B5.out (Nat.lt_succ_self _)).ten
      have ltX := (BX.out.below B5.out (Nat.lt_succ_self _)).lt
      have hl : Below w5.heap.size w5 (w5.alloc (.cells #[.int .u8 (mem : Int), .int .u8 (chunk : Int), .int .u8 (rows : Int), .int .u8 (log : Int), .int .u8 (me : Int), .int .u8 255, .int .u8 (done : Int), .int .u8 1] 5)) := (Below.refl _ _).alloc (Nat.le_refl _) _
      obtain ⟨x7, k7, w7, r7, o7, d7, b7⟩ := append_own (O5.out.here hl) D5.out.byt (rd_lit w5 [mem, chunk, rows, log, me, 255, done, 1] #[.int .u8 (mem : Int), .int .u8 (chunk : Int), .int .u8 (rows : Int), .int .u8 (log : Int), .int .u8 (me : Int), .int .u8 255, .int .u8 (done : Int), .int .u8 1] 8 8 (0, 0) rfl rfl (by simp) S1.out (by show 8 ≤ maxLen; unfold maxLen; decide)) (by simp [PM.own4]) (Nat.le_trans HZ.out (Nat.le_trans B5.out.size hl.size)) 17 (by simp [PM.own4])
      have B7 := Lib.hid ((B5.out.trans (hl.mono (Nat.le_trans HZ.out B5.out.size))).trans b7)
      have R7 := Lib.hid r7
      have D7 := Lib.hid d7
      clear r7 o7 d7 b7 hl
      go_wp2_with (first | (at_builtin; refine wpList_append_run rfl _ _ _ _ rfl R5.out ?_; clear R5) | (at_builtin; refine wpList_append_run rfl _ _ _ _ rfl R7.out ?_; clear R7))
      clear c0 c1 c2 c3 c4 c5 c6 c7 c8 c9 ltX
      have CS := Lib.hid (refSealed_any x7 17 k7 _ w7 D7.out (by simp [PM.own4]))
      (with_reducible refine CS.out.mono ?_)
      rintro e w8 ⟨g8, rfl, hg8, hblk, b8⟩
      go_wp2_with fail
      go_ret
      exact ⟨g8, rfl, Nat.le_trans (Nat.le_trans (Nat.le_succ _) (Nat.le_trans HZ.out B7.out.size)) hg8, hblk, B0.out.trans ((thence B7.out b8 HZ.out).mono (Nat.le_succ _))⟩
    | false =>
      have HD : Hid (Lab.block ⟨id, ev, (mem : Int), (chunk : Int), (rows : Int), (log : Int), (me : Int), lost, (done : Int), false⟩ = SL.sld ([76] ++ PM.own4 id ++ PM.own4 ev ++ [mem, chunk, rows, log, me, 255, done, 0])) := by
        show SL.sld ([76] ++ PM.own4 id ++ PM.own4 ev ++ [mem, chunk, rows, log, me, LB.wire lost, done, 0]) = _
        rw [hw]
      rw [HD.out]
      clear hw HD
      have S1 : Hid (Bytes [mem, chunk, rows, log, me, 255, done, 0]) := by
        intro x hx
        simp only [List.mem_cons, List.not_mem_nil, or_false] at hx
        rcases hx with rfl | rfl | rfl | rfl | rfl | rfl | rfl | rfl <;> first | assumption | decide
      clear h1 h2 h3 h4 h5 h6 h7
      have B0 : Hid (Below w.heap.size w (w.alloc (.cells #[.int .u32 (id : Int), .int .u32 (ev : Int), .int .i64 (mem : Int), .int .i64 (chunk : Int), .int .i64 (rows : Int), .int .i64 (log : Int), .int .i64 (me : Int), .int .i64 lost, .int .i64 (done : Int), .bool false] 28))) := (Below.refl _ _).alloc (Nat.le_refl _) _
      have BX := Lib.hid (Bx.new w [.int .u32 (id : Int), .int .u32 (ev : Int), .int .i64 (mem : Int), .int .i64 (chunk : Int), .int .i64 (rows : Int), .int .i64 (log : Int), .int .i64 (me : Int), .int .i64 lost, .int .i64 (done : Int), .bool false] 28)
      go_enter Try.func30, Try.ntmps30
      go_wp2_with fail
      replace BX : Hid (Bx (w.alloc (.cells #[.int .u32 (id : Int), .int .u32 (ev : Int), .int .i64 (mem : Int), .int .i64 (chunk : Int), .int .i64 (rows : Int), .int .i64 (log : Int), .int .i64 (me : Int), .int .i64 lost, .int .i64 (done : Int), .bool false] 28)) w.heap.size [.int .u32 (id : Int), .int .u32 (ev : Int), .int .i64 (mem : Int), .int .i64 (chunk : Int), .int .i64 (rows : Int), .int .i64 (log : Int), .int .i64 (me : Int), .int .i64 lost, .int .i64 (done : Int), .bool false]) := BX
      have hsz : Hid ((w.alloc (.cells #[.int .u32 (id : Int), .int .u32 (ev : Int), .int .i64 (mem : Int), .int .i64 (chunk : Int), .int .i64 (rows : Int), .int .i64 (log : Int), .int .i64 (me : Int), .int .i64 lost, .int .i64 (done : Int), .bool false] 28)).heap.size = w.heap.size + 1) := by show _ = _; simp
      generalize w.alloc (.cells #[.int .u32 (id : Int), .int .u32 (ev : Int), .int .i64 (mem : Int), .int .i64 (chunk : Int), .int .i64 (rows : Int), .int .i64 (log : Int), .int .i64 (me : Int), .int .i64 lost, .int .i64 (done : Int), .bool false] 28) = W0 at *
      have HZ : Hid (w.heap.size + 1 ≤ W0.heap.size) := Nat.le_of_eq hsz.out.symm
      have O1 : Hid (Own (W0.alloc (.cells #[.int .u8 76] 5)) (w.heap.size + 1) (.slice (some ⟨w.heap.size + 1, 0, none⟩) 1 1) [76]) := by
        have := own_lit W0 W0.heap.size [76] 1 rfl (by decide) (Nat.le_refl _) #[.int .u8 76] rfl
        rw [hsz.out] at this
        exact this
      have B1 : Hid (Below (w.heap.size + 1) W0 (W0.alloc (.cells #[.int .u8 76] 5))) := (Below.refl _ _).alloc HZ.out _
      generalize W0.alloc (.cells #[.int .u8 76] 5) = W1 at *
      (with_reducible refine (CF.out id _ HI.out).mono ?_)
      rintro e w2 ⟨fa2, rfl, fr, b2⟩
      obtain ⟨x3, k3, w3, r3, o3, d3, b3⟩ := append_own (O1.out.here b2) (by intro x hx; simp at hx; omega) fr (by simp [PM.own4]) (Nat.le_trans HZ.out (Nat.le_trans B1.out.size b2.size)) 5 (by simp [PM.own4])
      have B3 := Lib.hid ((thence B1.out b2 HZ.out).trans b3)
      have R3 := Lib.hid r3
      have O3 := Lib.hid o3
      have D3 := Lib.hid d3
      clear b2 r3 o3 d3 b3 fr
      obtain ⟨c0, c1, c2, c3, c4, c5, c6, c7, c8, c9⟩ := (BX.out.below B3.out (Nat.lt_succ_self _)).ten
      have ltX := (BX.out.below B3.out (Nat.lt_succ_self _)).lt
      go_wp2_with (at_builtin; refine wpList_append_run rfl _ _ _ _ rfl R3.out ?_; clear R3)
      clear c0 c1 c2 c3 c4 c5 c6 c7 c8 c9 ltX
      (with_reducible refine (CF.out ev _ HE.out).mono ?_)
      rintro e w4 ⟨fa4, rfl, fr, b2⟩
      obtain ⟨x5, k5, w5, r3, o3, d3, b3⟩ := append_own (O3.out.here b2) D3.out.byt fr (by simp [PM.own4]) (Nat.le_trans HZ.out (Nat.le_trans B3.out.size b2.size)) 9 (by simp [PM.own4])
      have B5 := Lib.hid ((thence B3.out b2 HZ.out).trans b3)
      have R5 := Lib.hid r3
      have O5 := Lib.hid o3
      have D5 := Lib.hid d3
      clear b2 r3 o3 d3 b3 fr
      obtain ⟨c0, c1, c2, c3, c4, c5, c6, c7, c8, c9⟩ := (BX.out.below B5.out (Nat.lt_succ_self _)).ten
      have ltX := (BX.out.below B5.out (Nat.lt_succ_self _)).lt
      have hl : Below w5.heap.size w5 (w5.alloc (.cells #[.int .u8 (mem : Int), .int .u8 (chunk : Int), .int .u8 (rows : Int), .int .u8 (log : Int), .int .u8 (me : Int), .int .u8 255, .int .u8 (done : Int), .int .u8 0] 5)) := (Below.refl _ _).alloc (Nat.le_refl _) _
      obtain ⟨x7, k7, w7, r7, o7, d7, b7⟩ := append_own (O5.out.here hl) D5.out.byt (rd_lit w5 [mem, chunk, rows, log, me, 255, done, 0] #[.int .u8 (mem : Int), .int .u8 (chunk : Int), .int .u8 (rows : Int), .int .u8 (log : Int), .int .u8 (me : Int), .int .u8 255, .int .u8 (done : Int), .int .u8 0] 8 8 (0, 0) rfl rfl (by simp) S1.out (by show 8 ≤ maxLen; unfold maxLen; decide)) (by simp [PM.own4]) (Nat.le_trans HZ.out (Nat.le_trans B5.out.size hl.size)) 17 (by simp [PM.own4])
      have B7 := Lib.hid ((B5.out.trans (hl.mono (Nat.le_trans HZ.out B5.out.size))).trans b7)
      have R7 := Lib.hid r7
      have D7 := Lib.hid d7
      clear r7 o7 d7 b7 hl
      go_wp2_with (first | (at_builtin; refine wpList_append_run rfl _ _ _ _ rfl R5.out ?_; clear R5) | (at_builtin; refine wpList_append_run rfl _ _ _ _ rfl R7.out ?_; clear R7))
      clear c0 c1 c2 c3 c4 c5 c6 c7 c8 c9 ltX
      have CS := Lib.hid (refSealed_any x7 17 k7 _ w7 D7.out (by simp [PM.own4]))
      (with_reducible refine CS.out.mono ?_)
      rintro e w8 ⟨g8, rfl, hg8, hblk, b8⟩
      go_wp2_with fail
      go_ret
      exact ⟨g8, rfl, Nat.le_trans (Nat.le_trans (Nat.le_succ _) (Nat.le_trans HZ.out B7.out.size)) hg8, hblk, B0.out.trans ((thence B7.out b8 HZ.out).mono (Nat.le_succ _))⟩
end Go.Proofs.Ytleaphlignfkjaa.PW
