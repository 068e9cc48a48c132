/-
  Contracts of layer 4's small functions, the program's and the document's own.
-/
import Derived.Test.YtnhfkfihlkbkfaaKinds
import Derived.WalkMore
import Derived.Deep.LoopGhost
namespace Go.Proofs.Ytnhfkfihlkbkfaa.PW
open Go.RowKit
open DK (Dv)
set_option linter.unusedVariables false
set_option maxRecDepth 100000

theorem isBlock_any (a : Option Addr) (len cap : Nat) (l : List Nat) (w : World) (hl : len = l.length) (hs : len ≤ maxLen) :
    Calls Try.prog 68 #[.slice a len cap] w fun e w' => e = .returned (.bool (DK.sized l)) ∧ w = w' := by
  subst hl
  unfold DK.sized
  unfold maxLen at hs
  generalize l.length = n at *
  by_cases h0 : n = 0
  · subst h0
    go_enter Try.func68, Try.ntmps68
    go_wp2
    go_ret
    exact ⟨rfl, rfl⟩
  · have e0 : ((n : Int) == 0) = false := by rw [beq_eq_false_iff_ne]; omega
    by_cases h1 : n = 128
    · subst h1
      go_enter Try.func68, Try.ntmps68
      go_wp2
      go_ret
      exact ⟨rfl, rfl⟩
    · have e1 : ((n : Int) == 128) = false := by rw [beq_eq_false_iff_ne]; omega
      have HH : Hid ((decide (n = 0) || decide (n = 128)) = false) := by show _ = _; simp [h0, h1]
      rw [HH.out]
      go_enter Try.func68, Try.ntmps68
      go_wp2
      go_ret
      exact ⟨rfl, rfl⟩
theorem refSized_any (a : Option Addr) (len cap : Nat) (l : List Nat) (w : World) (hl : len = l.length) (hs : len ≤ maxLen) :
    Calls Try.prog 76 #[.slice a len cap] w fun e w' => e = .returned (.bool (DK.sized l)) ∧ w = w' := by
  subst hl
  unfold DK.sized
  unfold maxLen at hs
  generalize l.length = n at *
  by_cases h0 : n = 0
  · subst h0
    go_enter Try.func76, Try.ntmps76
    go_wp2
    go_ret
    exact ⟨rfl, rfl⟩
  · have e0 : ((n : Int) == 0) = false := by rw [beq_eq_false_iff_ne]; omega
    by_cases h1 : n = 128
    · subst h1
      go_enter Try.func76, Try.ntmps76
      go_wp2
      go_ret
      exact ⟨rfl, rfl⟩
    · have e1 : ((n : Int) == 128) = false := by rw [beq_eq_false_iff_ne]; omega
      have HH : Hid ((decide (n = 0) || decide (n = 128)) = false) := by show _ = _; simp [h0, h1]
      rw [HH.out]
      go_enter Try.func76, Try.ntmps76
      go_wp2
      go_ret
      exact ⟨rfl, rfl⟩

theorem has_any (a : Option Addr) (n c : Nat) (a' : Option Addr) (n' c' : Nat) (D : Dv) (at_ : Int) (w : World) (hn : n = D.bs.length) (hs : n ≤ maxLen) :
    Calls Try.prog 69 #[.agg #[.slice a n c, .slice a' n' c', .bool D.dead], .int .i64 at_] w fun e w' => e = .returned (.bool (DK.has D at_)) ∧ Below w.heap.size w w' := by
  unfold maxLen at hs
  by_cases h0 : 0 ≤ at_
  · by_cases h1 : at_ < (n : Int)
    · have hh : DK.has D at_ = true := by rw [DK.has_iff]; omega
      rw [hh]
      clear hh
      generalize D.dead = dd
      clear hn
      go_enter Try.func69, Try.ntmps69
      go_wp2
      go_ret
      exact ⟨rfl, (Below.refl _ _).alloc (Nat.le_refl _) _⟩
    · have hh : DK.has D at_ = false := by rw [DK.has_no]; omega
      rw [hh]
      clear hh
      generalize D.dead = dd
      clear hn
      go_enter Try.func69, Try.ntmps69
      go_wp2
      go_ret
      exact ⟨rfl, (Below.refl _ _).alloc (Nat.le_refl _) _⟩
  · have hh : DK.has D at_ = false := by rw [DK.has_no]; omega
    rw [hh]
    clear hh
    generalize D.dead = dd
    clear hn
    go_enter Try.func69, Try.ntmps69
    go_wp2
    go_ret
    exact ⟨rfl, (Below.refl _ _).alloc (Nat.le_refl _) _⟩

theorem eqnil (w : World) (a : Option Addr) (n c n' c' : Nat) : (binOp .eql 31 (.slice a n c) (.slice none n' c')).run Try.prog w = .ok (.bool a.isNone) w :=
  Lib.run_eql_slice_nil w _ _ a n c n' c' Try.underlying31
/-- 'bytes.Clone': the same bytes in new memory. -/
theorem clone_any (a : Option Addr) (len cap : Nat) (l : List Nat) (w : World) {B : Nat} (hr : Rd B w a len cap l) (hl : l.length ≤ 100000) (hB : B ≤ w.heap.size) :
    Calls Try.prog 65 #[.slice a len cap] w fun e w' => ∃ a' cap', e = .returned (.slice a' len cap') ∧ Own w' w.heap.size (.slice a' len cap') l ∧ Rd w'.heap.size w' a' len cap' l ∧ Below w.heap.size w w' := by
  have q := eqnil
  cases a with
  | none =>
    obtain ⟨rfl, rfl⟩ := hr.nil rfl
    have hl0 : l = [] := List.eq_nil_of_length_eq_zero hr.long.symm
    subst hl0
    clear hr
    go_enter Try.func65, Try.ntmps65
    go_wp2
    go_ret
    exact ⟨none, 0, rfl, own_nil _ _, rd_nil _ _, Below.refl _ _⟩
  | some x =>
    have hb0 : Below w.heap.size w (w.alloc (.cells #[] 5)) := (Below.refl _ _).alloc (Nat.le_refl _) _
    have o0 : Own (w.alloc (.cells #[] 5)) w.heap.size (.slice (some ⟨w.heap.size, 0, none⟩) 0 0) [] := ⟨rfl, .inr ⟨w.heap.size, 0, #[], rfl, Nat.le_refl _, heap_alloc_new _ _, Nat.le_refl _, by unfold maxLen; decide, rfl, rfl⟩⟩
    have hr1 : Rd B (w.alloc (.cells #[] 5)) (some x) len cap l := hr.below (hb0.mono hB)
    obtain ⟨v', w', r, o, g, q2⟩ := append_bytes _ w.heap.size _ [] o0 B _ len cap l hr1 (by simp; omega) hb0.size
    rw [List.nil_append] at o
    have b1 : Below w.heap.size w w' := hb0.grown g hb0.size (fun k hk => by cases hk; exact Nat.le_refl _)
    obtain ⟨a', cap', rfl, rd⟩ := o.rd hr.byt
    obtain rfl := hr.long
    have R := Lib.hid r
    have O := Lib.hid o
    have RD := Lib.hid rd
    have B1 := Lib.hid b1
    clear r o g q2 rd b1 hb0 o0 hr1 hr hl hB
    generalize l.length = n at *
    go_enter Try.func65, Try.ntmps65
    go_wp2_with (at_builtin; refine wpList_append_run rfl _ _ _ _ rfl R.out ?_)
    go_ret
    exact ⟨a', cap', rfl, O.out, RD.out, B1.out⟩

/-- A walk's step at a copy whose run is known. -/
theorem wpList_copy_run' {P : Program} {ops : Array Oper} {rest : List Oper} {o : Oper} {a : Act} {Q : Exit → Act → World → Prop} {w w' : World} {v' : Value} (hgd : o.guard = none) (s x : Operand) (t1 t2 : TypeId)
    (ho : o.op = .call { callee := .builtin .copy, args := #[s, x], argTypes := #[t1, t2] }) (hrun : (Builtin.copy_ #[t1, t2] o.type #[a.eval s, a.eval x]).run P w = .ok v' w')
    (h : wpList P ops Q rest (a.put o.dst v') w') : wpList P ops Q (o :: rest) a w := by
  refine wpList_plain hgd fun K hK => ?_
  unfold Oper.wp execOp
  simp only [ho, resolve, invoke, builtin, Sem.run_bind, Sem.run_pure, Result.andThen_ok, List.map_toArray, List.map_cons, List.map_nil, hrun]
  exact hK _ _ h
/-- 'copy' into a block of noughts that the call made: the block, or noughts of none. -/
theorem copy_block (w : World) (g : Nat) (Z : List Nat) (hZ : Z = List.replicate 128 0) (hb : Blk w g Z) {B : Nat} (hB : B ≤ g) {B' : Nat} (a : Option Addr) (len cap : Nat) (l : List Nat) (hr : Rd B' w a len cap l) (hl : DK.sized l = true) (T : TypeId) :
    ∃ x w', (Builtin.copy_ #[31, 31] T #[.slice (some ⟨g, 0, none⟩) 128 128, .slice a len cap]).run Try.prog w = .ok x w' ∧ Blk w' g (DK.fl l) ∧ Below B w w' := by
  rw [DK.sized_iff] at hl
  obtain rfl := hr.long
  have hsz : (Try.prog.info? 5).map (·.size) = some 1 := by kernel_rfl
  rcases hl with h0 | h0
  · have hl0 : l = [] := List.eq_nil_of_length_eq_zero h0
    subst hl0
    refine ⟨_, w, run_copy_none (P := Try.prog) w 31 31 T 5 _ _ _ _ _ _ Try.underlying31 hsz (Nat.zero_min _), ?_, Below.refl _ _⟩
    rw [DK.fl_nil, ← hZ]
    exact hb
  · obtain ⟨b, off, rfl, _, _⟩ := hr.cells (by intro e; subst e; simp at h0)
    obtain ⟨t, hg⟩ := hb
    have hc := fun j v hj => hr.cellAt j v hj
    have hrun := run_copy_row (P := Try.prog) w 31 31 T 5 g 0 128 128 ⟨b, off, none⟩ l.length cap _ t (l.map bv) Try.underlying31 hsz hg (by rw [List.length_map, h0]; rfl) hc (by rw [hZ]; simp [h0]) (one_bv l)
    refine ⟨_, _, hrun, ⟨t, ?_⟩, below_setRow (Below.refl _ _) hB _⟩
    rw [setRow_heap w g _ _ _ _ hg]
    rw [DK.fl_ne (by omega)]
    congr 2
    rw [hZ]
    simp [h0]
theorem handed_any (a : Option Addr) (len cap : Nat) (l : List Nat) (w : World) (hr : Rd w.heap.size w a len cap l) (hl : DK.sized l = true) :
    Calls Try.prog 61 #[.slice a len cap] w fun e w' => ∃ g, e = .returned (.slice (some ⟨g, 0, none⟩) 128 128) ∧ w.heap.size ≤ g ∧ Blk w' g (DK.fl l) ∧ Below w.heap.size w w' := by
  obtain ⟨Z, HZ, HZl, hz⟩ := make128'
  have hbel : Below w.heap.size w (w.alloc (.cells (Z.map bv).toArray 5)) := (Below.refl _ w).alloc (Nat.le_refl _) _
  obtain ⟨x, w', r, b2, l2⟩ := copy_block _ w.heap.size Z HZ.out (Blk.alloc w Z 5) (Nat.le_refl _) a len cap l (hr.below hbel) hl 3
  have R := Lib.hid r
  have B2 := Lib.hid b2
  have L2 := Lib.hid (hbel.trans l2)
  clear r b2 l2 hbel hr hl
  go_enter Try.func61, Try.ntmps61
  go_wp2_with (refine wpList_copy_run' rfl (.tmp 5) (.tmp 6) _ _ rfl R.out ?_)
  go_ret
  exact ⟨w.heap.size, rfl, Nat.le_refl _, B2.out, L2.out⟩
theorem Own.ofBlk {w : World} {g lo : Nat} {l : List Nat} (h : w.heap[g]? = some (.cells (l.map bv).toArray 5 (0, 0))) (hg : lo ≤ g) (hl : l.length ≤ maxLen) : Own w lo (.slice (some ⟨g, 0, none⟩) l.length l.length) l :=
  ⟨by simp, .inr ⟨g, l.length, _, rfl, hg, h, Nat.le_refl _, hl, by simp, by rw [Nat.mul_one, List.take_of_length_le (by simp)]; rfl⟩⟩

/-- The program's 'full': noughts of none, else the same slice. -/
theorem full_any (a : Option Addr) (len cap : Nat) (l : List Nat) (w : World) (hr : Rd w.heap.size w a len cap l) :
    Calls Try.prog 88 #[.slice a len cap] w fun e w' => ∃ a' len' cap', e = .returned (.slice a' len' cap') ∧ Rd w'.heap.size w' a' len' cap' (DK.fl l) ∧ Below w.heap.size w w' := by
  obtain ⟨Z, HZ, HZl, hz⟩ := make128'
  obtain rfl := hr.long
  by_cases h0 : l.length = 0
  · have hl0 : l = [] := List.eq_nil_of_length_eq_zero h0
    subst hl0
    rw [DK.fl_nil, ← HZ.out]
    have hbel : Below w.heap.size w (w.alloc (.cells (Z.map bv).toArray 5)) := (Below.refl _ w).alloc (Nat.le_refl _) _
    have hb : Rd (w.alloc (.cells (Z.map bv).toArray 5)).heap.size (w.alloc (.cells (Z.map bv).toArray 5)) (some ⟨w.heap.size, 0, none⟩) 128 128 Z := (Blk.alloc w Z 5).rd HZl.out (by rw [HZ.out]; intro x hx; have := (List.mem_replicate.1 hx).2; omega)
    have Hb := Lib.hid hb
    have Hl := Lib.hid hbel
    clear hb hbel hr h0
    go_enter Try.func88, Try.ntmps88
    go_wp2
    go_ret
    exact ⟨_, _, _, rfl, Hb.out, Hl.out⟩
  · rw [DK.fl_ne h0]
    have Hr := Lib.hid hr
    have hsm := hr.small
    have hft := hr.fits
    unfold maxLen at hsm
    have e0 : ((l.length : Int) == 0) = false := by rw [beq_eq_false_iff_ne]; omega
    clear hr
    generalize l.length = n at *
    go_enter Try.func88, Try.ntmps88
    go_wp2
    go_ret
    exact ⟨_, _, _, rfl, Hr.out, Below.refl _ _⟩

/-- The document's own 'Full': the bytes in new memory, noughts of none. -/
theorem refFull_any (a : Option Addr) (len cap : Nat) (l : List Nat) (w : World) (hr : Rd w.heap.size w a len cap l) (hl : l.length ≤ 100000) :
    Calls Try.prog 59 #[.slice a len cap] w fun e w' => ∃ a' len' cap', e = .returned (.slice a' len' cap') ∧ len' = (DK.fl l).length ∧ Own w' w.heap.size (.slice a' len' cap') (DK.fl l) ∧ Rd w'.heap.size w' a' len' cap' (DK.fl l) ∧ Below w.heap.size w w' := by
  obtain ⟨Z, HZ, HZl, hz⟩ := make128'
  obtain rfl := hr.long
  by_cases h0 : l.length = 0
  · have hl0 : l = [] := List.eq_nil_of_length_eq_zero h0
    subst hl0
    rw [DK.fl_nil, ← HZ.out]
    have hbel : Below w.heap.size w (w.alloc (.cells (Z.map bv).toArray 5)) := (Below.refl _ w).alloc (Nat.le_refl _) _
    have hb : Rd (w.alloc (.cells (Z.map bv).toArray 5)).heap.size (w.alloc (.cells (Z.map bv).toArray 5)) (some ⟨w.heap.size, 0, none⟩) 128 128 Z := (Blk.alloc w Z 5).rd HZl.out (by rw [HZ.out]; intro x hx; have := (List.mem_replicate.1 hx).2; omega)
    have ho : Own (w.alloc (.cells (Z.map bv).toArray 5)) w.heap.size (.slice (some ⟨w.heap.size, 0, none⟩) 128 128) Z := by
      have := Own.ofBlk (lo := w.heap.size) (heap_alloc_new w (.cells (Z.map bv).toArray 5)) (Nat.le_refl _) (by rw [HZl.out]; unfold maxLen; decide)
      rwa [HZl.out] at this
    have Hb := Lib.hid hb
    have Hl := Lib.hid hbel
    have Ho := Lib.hid ho
    clear hb hbel hr h0 ho
    go_enter Try.func59, Try.ntmps59
    go_wp2
    go_ret
    exact ⟨_, _, _, rfl, HZl.out.symm, Ho.out, Hb.out, Hl.out⟩
  · rw [DK.fl_ne h0]
    obtain ⟨v', w', r, o, g, q2⟩ := append_bytes w w.heap.size _ [] (own_nil _ _) w.heap.size a l.length cap l hr (by simp; omega) (Nat.le_refl _)
    rw [List.nil_append] at o
    have b1 : Below w.heap.size w w' := (Below.refl _ _).grown g (Nat.le_refl _) (fun k hk => by cases hk)
    obtain ⟨a', cap', rfl, rd⟩ := o.rd hr.byt
    have R := Lib.hid r
    have O := Lib.hid o
    have RD := Lib.hid rd
    have B1 := Lib.hid b1
    have hsm := hr.small
    have hft := hr.fits
    unfold maxLen at hsm
    have e0 : ((l.length : Int) == 0) = false := by rw [beq_eq_false_iff_ne]; omega
    clear r o g q2 rd b1 hr hl hz
    generalize hn : l.length = n at *
    have Hn := Lib.hid hn
    clear hn
    go_enter Try.func59, Try.ntmps59
    go_wp2_with (at_builtin; refine wpList_append_run rfl _ _ _ _ rfl R.out ?_)
    go_ret
    exact ⟨_, _, _, rfl, rfl, O.out, RD.out, B1.out⟩

/-- 'bytes.Equal'. -/
theorem equal_any (a : Option Addr) (n c : Nat) (l : List Nat) (b : Option Addr) (n' c' : Nat) (m : List Nat) (w : World) {B : Nat} (hr : Rd B w a n c l) (hq : Rd B w b n' c' m) :
    Calls Try.prog 77 #[.slice a n c, .slice b n' c'] w fun e w' => e = .returned (.bool (decide (l = m))) ∧ w = w' := by
  have t1 := text_is w a n c l hr
  have t2 := text_is w b n' c' m hq
  have HN : Hid (((str l).toList == (str m).toList) = decide (l = m)) := by
    show _ = _
    by_cases h : l = m
    · subst h; simp
    · rw [decide_eq_false h, beq_eq_false_iff_ne]
      intro h2
      apply h
      refine str_inj hr.byt hq.byt ?_
      rw [ByteArray.toList_eq, ByteArray.toList_eq] at h2
      have h3 : (str l).data.toList = (str m).data.toList := h2
      have : (str l).data = (str m).data := Array.toList_inj.1 h3
      cases hx : str l; cases hy : str m; simp_all
  clear hr hq
  generalize str l = s at *
  generalize str m = t at *
  go_enter Try.func77, Try.ntmps77
  go_wp2
  go_ret
  exact ⟨by rw [← HN.out]; rfl, rfl⟩

/-- The program's 'alike'. -/
theorem alike_any (a : Option Addr) (n c : Nat) (l : List Nat) (b : Option Addr) (n' c' : Nat) (m : List Nat) (w : World) (hr : Rd w.heap.size w a n c l) (hq : Rd w.heap.size w b n' c' m) :
    Calls Try.prog 82 #[.slice a n c, .slice b n' c'] w fun e w' => e = .returned (.bool (decide (DK.fl l = DK.fl m))) ∧ Below w.heap.size w w' := by
  have C1 := Lib.hid (full_any a n c l w hr)
  have C2 := Lib.hid (fun w1 hq => full_any b n' c' m w1 hq)
  have C3 := Lib.hid (fun w1 a n c b n' c' (hr : Rd w1.heap.size w1 a n c (DK.fl l)) (hq : Rd w1.heap.size w1 b n' c' (DK.fl m)) => equal_any a n c (DK.fl l) b n' c' (DK.fl m) w1 hr hq)
  have Hq := Lib.hid hq
  clear hr hq
  generalize decide (DK.fl l = DK.fl m) = q at *
  go_enter Try.func82, Try.ntmps82
  go_wp2_with fail
  refine C1.out.mono ?_
  rintro e w1 ⟨a1, n1, c1, rfl, r1, b1⟩
  have R1 := Lib.hid r1
  have B1 := Lib.hid b1
  clear r1 b1
  go_wp2_with fail
  refine (C2.out _ (Hq.out.here B1.out)).mono ?_
  rintro e w2 ⟨a2, n2, c2, rfl, r2, b2⟩
  have R2 := Lib.hid r2
  have B2 := Lib.hid b2
  clear r2 b2
  go_wp2_with fail
  refine (C3.out _ _ _ _ _ _ _ (R1.out.here B2.out) R2.out).mono ?_
  rintro e w3 ⟨rfl, rfl⟩
  go_wp2_with fail
  go_ret
  exact ⟨rfl, thence B1.out B2.out (Nat.le_refl _)⟩

set_option maxRecDepth 100000 in
/-- A law's 'full': a new block of one byte. -/
theorem lawFull_any (x : Nat) (hx : x < 256) (w : World) :
    Calls Try.prog 37 #[.int .u8 (x : Int)] w fun e w' => ∃ g, e = .returned (.slice (some ⟨g, 0, none⟩) 128 128) ∧ w.heap.size ≤ g ∧ Blk w' g (List.replicate 128 x) ∧ Below w.heap.size w w' := by
  obtain ⟨Z, HZ, HZl, hz⟩ := make128'
  obtain ⟨R, HR⟩ : ∃ R, Hid (R = List.replicate 128 x) := ⟨_, rfl⟩
  rw [← HR.out]
  have HW : Hid (∀ k, k < 128 → (List.replicate k x ++ List.replicate (128 - k) 0).set k x = List.replicate (k + 1) x ++ List.replicate (128 - (k + 1)) 0) := by
    intro k hk
    obtain ⟨m, hm⟩ : ∃ m, 128 - k = m + 1 := ⟨128 - k - 1, by omega⟩
    have hm2 : 128 - (k + 1) = m := by omega
    rw [hm, hm2, List.replicate_succ, List.set_append_right _ _ (by simp), List.replicate_succ']
    simp
  have hblk : Blk (w.alloc (.cells (Z.map bv).toArray 5)) w.heap.size (List.replicate 0 x ++ List.replicate (128 - 0) 0) := by
    have : List.replicate 0 x ++ List.replicate (128 - 0) 0 = Z := by rw [HZ.out]; rfl
    rw [this]; exact Blk.alloc w Z _
  have hbel : Below w.heap.size w (w.alloc (.cells (Z.map bv).toArray 5)) := (Below.refl _ w).alloc (Nat.le_refl _) _
  have Hk := Lib.hid hblk
  have Hb := Lib.hid hbel
  clear hblk hbel
  go_enter Try.func37, Try.ntmps37
  go_wp2
  have hblk := Hk.out
  have hbel := Hb.out
  clear Hk Hb hz
  generalize w.alloc (.cells (Z.map bv).toArray 5) = w1 at *
  generalize hgB : w.heap.size = g at *
  have HgB := Lib.hid hgB
  clear hgB
  go_loopw [4] (fun i wr => ∃ k : Nat, k ≤ 128 ∧ i = .int .i64 k ∧ Blk wr g (List.replicate k x ++ List.replicate (128 - k) 0) ∧ Below g w wr) (fun i _ => 128 - (intOf i).toNat)
  case atStart => exact ⟨0, by omega, rfl, hblk, hbel⟩
  case round =>
    obtain ⟨k, hk, rfl, hb, hl⟩ := hrel
    by_cases hlt : k < 128
    · have f1 := hb.cell k (by simp; omega)
      have f2 := hb.frozen k
      have hs := hb.set k x
      rw [HW.out k hlt] at hs
      have hb' : Below g w (wr.setCell ⟨g, k, none⟩ (.int .u8 (x : Int))) := hl.setCell (Nat.le_refl _) _
      have Hs := Lib.hid hs
      have Hb := Lib.hid hb'
      have Hlt := Lib.hid hlt
      clear hs hb' hb hl hblk hbel
      generalize (List.replicate k x ++ List.replicate (128 - k) 0).getD k 0 = y at *
      go_wp2
      go_roundw
      case rel => exact ⟨k + 1, by have := Hlt.out; omega, by go_num, Hs.out, Hb.out⟩
      case measure => simp [intOf]; omega
    · obtain rfl : k = 128 := by omega
      go_wp2
      go_ret
      exact ⟨g, rfl, by rw [HgB.out]; exact Nat.le_refl _, by rw [HR.out]; simpa using hb, by rw [HgB.out]; exact hl⟩
end Go.Proofs.Ytnhfkfihlkbkfaa.PW
