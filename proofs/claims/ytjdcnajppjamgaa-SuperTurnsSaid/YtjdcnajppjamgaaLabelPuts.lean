/-
  Layer 9: what the program's own Write answers.
-/
import Derived.Test.YtjdcnajppjamgaaLabelLaws
import Derived.Test.YtjdcnajppjamgaaLabelChecks
import Derived.Test.YtjdcnajppjamgaaLabelLaid
import Derived.Test.YtjdcnajppjamgaaPackWalks
import Derived.Test.YtjdcnajppjamgaaProgSum
import Derived.Laws.EntriesVeiled
namespace Go.Proofs.Ytjdcnajppjamgaa.PW
open Go.RowKit
open LB (Lab)
set_option linter.unusedVariables false
set_option linter.unusedSimpArgs false
set_option maxRecDepth 100000


theorem lbParts_num (id ev : Nat) (mem chunk rows log me lost done : Int) (op : Bool) (w : World) (hi : id < 4294967296) (h : Lab.mayP ⟨id, ev, mem, chunk, rows, log, me, lost, done, op⟩) :
    Calls Try.prog 32 #[.agg #[.int .u32 (id : Int), .int .u32 (ev : Int), .int .i64 mem, .int .i64 chunk, .int .i64 rows, .int .i64 log, .int .i64 me, .int .i64 lost, .int .i64 done, .bool op]] w fun e w' => e = .returned (.agg #[.int .i64 (((⟨id, ev, mem, chunk, rows, log, me, lost, done, op⟩ : Lab).num 0 : Nat) : Int), .int .i64 (((⟨id, ev, mem, chunk, rows, log, me, lost, done, op⟩ : Lab).num 1 : Nat) : Int), .int .i64 (((⟨id, ev, mem, chunk, rows, log, me, lost, done, op⟩ : Lab).num 2 : Nat) : Int), .int .i64 (((⟨id, ev, mem, chunk, rows, log, me, lost, done, op⟩ : Lab).num 3 : Nat) : Int), .int .i64 (((⟨id, ev, mem, chunk, rows, log, me, lost, done, op⟩ : Lab).num 4 : Nat) : Int), .int .i64 (((⟨id, ev, mem, chunk, rows, log, me, lost, done, op⟩ : Lab).num 5 : Nat) : Int), .int .i64 (((⟨id, ev, mem, chunk, rows, log, me, lost, done, op⟩ : Lab).num 6 : Nat) : Int), .int .i64 (((⟨id, ev, mem, chunk, rows, log, me, lost, done, op⟩ : Lab).num 7 : Nat) : Int), .int .i64 (((⟨id, ev, mem, chunk, rows, log, me, lost, done, op⟩ : Lab).num 8 : Nat) : Int), .int .i64 (((⟨id, ev, mem, chunk, rows, log, me, lost, done, op⟩ : Lab).num 9 : Nat) : Int), .int .i64 (((⟨id, ev, mem, chunk, rows, log, me, lost, done, op⟩ : Lab).num 10 : Nat) : Int)]) ∧ Below w.heap.size w w' := by
  have hp := lbParts_any id ev mem chunk rows log me lost done op w hi (by have := h.2.1; dsimp only at this; omega)
  obtain ⟨⟨⟨a, b⟩, ⟨c, d⟩, ⟨e, f⟩, _, g, i⟩, j, k, m, n⟩ := h
  dsimp only [LB.Lab.cfg] at a b c d e f g i j k m n
  have e0 : (((⟨id, ev, mem, chunk, rows, log, me, lost, done, op⟩ : Lab).num 0 : Nat) : Int) = 76 := rfl
  have e1 : (((⟨id, ev, mem, chunk, rows, log, me, lost, done, op⟩ : Lab).num 1 : Nat) : Int) = (id : Int) := rfl
  have e2 : (((⟨id, ev, mem, chunk, rows, log, me, lost, done, op⟩ : Lab).num 2 : Nat) : Int) = (ev : Int) := rfl
  have e3 : (((⟨id, ev, mem, chunk, rows, log, me, lost, done, op⟩ : Lab).num 3 : Nat) : Int) = mem := Int.toNat_of_nonneg (show (0 : Int) ≤ mem by omega)
  have e4 : (((⟨id, ev, mem, chunk, rows, log, me, lost, done, op⟩ : Lab).num 4 : Nat) : Int) = chunk := Int.toNat_of_nonneg (show (0 : Int) ≤ chunk by omega)
  have e5 : (((⟨id, ev, mem, chunk, rows, log, me, lost, done, op⟩ : Lab).num 5 : Nat) : Int) = rows := Int.toNat_of_nonneg (show (0 : Int) ≤ rows by omega)
  have e6 : (((⟨id, ev, mem, chunk, rows, log, me, lost, done, op⟩ : Lab).num 6 : Nat) : Int) = log := Int.toNat_of_nonneg (show (0 : Int) ≤ log by omega)
  have e7 : (((⟨id, ev, mem, chunk, rows, log, me, lost, done, op⟩ : Lab).num 7 : Nat) : Int) = me := Int.toNat_of_nonneg (show (0 : Int) ≤ me by omega)
  have e8 : (((⟨id, ev, mem, chunk, rows, log, me, lost, done, op⟩ : Lab).num 8 : Nat) : Int) = (if lost = -1 then 255 else lost) := by
    show ((LB.wire lost : Nat) : Int) = _
    unfold LB.wire
    rcases n with ⟨n1, n2⟩ | ⟨n1, n2⟩
    · subst n1; rfl
    · rw [if_pos n1, if_neg (by omega)]; exact Int.toNat_of_nonneg n1
  have e9 : (((⟨id, ev, mem, chunk, rows, log, me, lost, done, op⟩ : Lab).num 9 : Nat) : Int) = done := Int.toNat_of_nonneg (show (0 : Int) ≤ done by omega)
  have e10 : (((⟨id, ev, mem, chunk, rows, log, me, lost, done, op⟩ : Lab).num 10 : Nat) : Int) = (if op = true then 1 else 0) := by cases op <;> rfl
  rw [e0, e1, e2, e3, e4, e5, e6, e7, e8, e9, e10]
  exact hp
set_option maxHeartbeats 2000000 in
theorem lbWrite_no (id ev : Nat) (mem chunk rows log me lost done : Int) (op : Bool) (w : World) (hi : id < 4294967296) (h : Lab.may ⟨id, ev, mem, chunk, rows, log, me, lost, done, op⟩ = false) :
    Calls Try.prog 18 #[.agg #[.int .u32 (id : Int), .int .u32 (ev : Int), .int .i64 mem, .int .i64 chunk, .int .i64 rows, .int .i64 log, .int .i64 me, .int .i64 lost, .int .i64 done, .bool op]] w fun e w' => ∃ a c, e = .returned (.tuple #[.slice a 0 c, .int .i64 8]) ∧ Rd w'.heap.size w' a 0 c [] ∧ Below w.heap.size w w' := by
  have CK := Lib.hid (fun w1 => lbCheck_any id ev mem chunk rows log me lost done op w1)
  rw [LB.code_no h] at CK
  clear h
  have B0 : Hid (Below w.heap.size w (w.alloc (.cells #[.int .u32 (id : Int), .int .u32 (ev : Int), .int .i64 mem, .int .i64 chunk, .int .i64 rows, .int .i64 log, .int .i64 me, .int .i64 lost, .int .i64 done, .bool op] 43))) := (Below.refl _ _).alloc (Nat.le_refl _) _
  have BX : Hid (Bx (w.alloc (.cells #[.int .u32 (id : Int), .int .u32 (ev : Int), .int .i64 mem, .int .i64 chunk, .int .i64 rows, .int .i64 log, .int .i64 me, .int .i64 lost, .int .i64 done, .bool op] 43)) w.heap.size [.int .u32 (id : Int), .int .u32 (ev : Int), .int .i64 mem, .int .i64 chunk, .int .i64 rows, .int .i64 log, .int .i64 me, .int .i64 lost, .int .i64 done, .bool op]) := Bx.new w [.int .u32 (id : Int), .int .u32 (ev : Int), .int .i64 mem, .int .i64 chunk, .int .i64 rows, .int .i64 log, .int .i64 me, .int .i64 lost, .int .i64 done, .bool op] 43
  obtain ⟨c0, c1, c2, c3, c4, c5, c6, c7, c8, c9⟩ := BX.out.ten
  have ltBX := BX.out.lt
  go_enter Try.func18, Try.ntmps18
  go_wp2_with fail
  (with_reducible refine (CK.out _).mono ?_)
  rintro e w1 ⟨rfl, b1⟩
  clear c0 c1 c2 c3 c4 c5 c6 c7 c8 c9 ltBX
  replace BX := Lib.hid (BX.out.here b1)
  have B1 := Lib.hid (thence B0.out b1 (Nat.le_refl _))
  clear b1 B0
  obtain ⟨c0, c1, c2, c3, c4, c5, c6, c7, c8, c9⟩ := BX.out.ten
  have ltBX := BX.out.lt
  go_wp2_with fail
  go_ret2
  exact ⟨none, 0, rfl, rd_nil _ _, B1.out⟩

set_option maxHeartbeats 4000000 in
theorem lbWrite_yes (id ev : Nat) (mem chunk rows log me lost done : Int) (op : Bool) (w : World) (hi : id < 4294967296) (h : Lab.mayP ⟨id, ev, mem, chunk, rows, log, me, lost, done, op⟩) :
    Calls Try.prog 18 #[.agg #[.int .u32 (id : Int), .int .u32 (ev : Int), .int .i64 mem, .int .i64 chunk, .int .i64 rows, .int .i64 log, .int .i64 me, .int .i64 lost, .int .i64 done, .bool op]] w fun e w' => ∃ a c, e = .returned (.tuple #[.slice a 128 c, .int .i64 0]) ∧ Rd w'.heap.size w' a 128 c (Lab.block ⟨id, ev, mem, chunk, rows, log, me, lost, done, op⟩) ∧ Mine w.heap.size w' a ∧ Below w.heap.size w w' := by
  have CK := Lib.hid (fun w1 => lbCheck_any id ev mem chunk rows log me lost done op w1)
  rw [LB.code_yes (LB.may_iff.2 h)] at CK
  have CP := Lib.hid (fun w1 => lbParts_num id ev mem chunk rows log me lost done op w1 hi h)
  have HB := Lib.hid (LB.puts_block h hi)
  have HD := Lib.hid (fun k (hk : k < 11) => LB.num_bd h hi hk)
  have H4 := Lib.hid (fun k (hk : k < 11) => LB.num_four h hi hk)
  have HY := Lib.hid (LB.block_bytes h hi)
  generalize Lab.num ⟨id, ev, mem, chunk, rows, log, me, lost, done, op⟩ = V at *
  generalize Lab.block ⟨id, ev, mem, chunk, rows, log, me, lost, done, op⟩ = M at *
  clear h hi
  have B0 : Hid (Below w.heap.size w (w.alloc (.cells #[.int .u32 (id : Int), .int .u32 (ev : Int), .int .i64 mem, .int .i64 chunk, .int .i64 rows, .int .i64 log, .int .i64 me, .int .i64 lost, .int .i64 done, .bool op] 43))) := (Below.refl _ _).alloc (Nat.le_refl _) _
  have BX : Hid (Bx (w.alloc (.cells #[.int .u32 (id : Int), .int .u32 (ev : Int), .int .i64 mem, .int .i64 chunk, .int .i64 rows, .int .i64 log, .int .i64 me, .int .i64 lost, .int .i64 done, .bool op] 43)) w.heap.size [.int .u32 (id : Int), .int .u32 (ev : Int), .int .i64 mem, .int .i64 chunk, .int .i64 rows, .int .i64 log, .int .i64 me, .int .i64 lost, .int .i64 done, .bool op]) := Bx.new w [.int .u32 (id : Int), .int .u32 (ev : Int), .int .i64 mem, .int .i64 chunk, .int .i64 rows, .int .i64 log, .int .i64 me, .int .i64 lost, .int .i64 done, .bool op] 43
  obtain ⟨c0, c1, c2, c3, c4, c5, c6, c7, c8, c9⟩ := BX.out.ten
  have ltBX := BX.out.lt
  go_enter Try.func18, Try.ntmps18
  go_wp2_with fail
  (with_reducible refine (CK.out _).mono ?_)
  rintro e w1 ⟨rfl, b1⟩
  clear c0 c1 c2 c3 c4 c5 c6 c7 c8 c9 ltBX
  replace BX := Lib.hid (BX.out.here b1)
  have B1 := Lib.hid (thence B0.out b1 (Nat.le_refl _))
  clear b1 B0
  obtain ⟨c0, c1, c2, c3, c4, c5, c6, c7, c8, c9⟩ := BX.out.ten
  have ltBX := BX.out.lt
  go_wp2_with fail
  (with_reducible refine (CP.out _).mono ?_)
  rintro e w2 ⟨rfl, b2⟩
  clear c0 c1 c2 c3 c4 c5 c6 c7 c8 c9 ltBX
  replace BX := Lib.hid (BX.out.here b2)
  have ha2 : Below w2.heap.size w2 (w2.alloc (.cells #[.int .i64 (V 0 : Int), .int .i64 (V 1 : Int), .int .i64 (V 2 : Int), .int .i64 (V 3 : Int), .int .i64 (V 4 : Int), .int .i64 (V 5 : Int), .int .i64 (V 6 : Int), .int .i64 (V 7 : Int), .int .i64 (V 8 : Int), .int .i64 (V 9 : Int), .int .i64 (V 10 : Int)] 67)) := (Below.refl _ _).alloc (Nat.le_refl _) _
  replace BX := Lib.hid (BX.out.here ha2)
  have BP : Hid (Bx (w2.alloc (.cells #[.int .i64 (V 0 : Int), .int .i64 (V 1 : Int), .int .i64 (V 2 : Int), .int .i64 (V 3 : Int), .int .i64 (V 4 : Int), .int .i64 (V 5 : Int), .int .i64 (V 6 : Int), .int .i64 (V 7 : Int), .int .i64 (V 8 : Int), .int .i64 (V 9 : Int), .int .i64 (V 10 : Int)] 67)) w2.heap.size [.int .i64 (V 0 : Int), .int .i64 (V 1 : Int), .int .i64 (V 2 : Int), .int .i64 (V 3 : Int), .int .i64 (V 4 : Int), .int .i64 (V 5 : Int), .int .i64 (V 6 : Int), .int .i64 (V 7 : Int), .int .i64 (V 8 : Int), .int .i64 (V 9 : Int), .int .i64 (V 10 : Int)]) := Bx.new w2 [.int .i64 (V 0 : Int), .int .i64 (V 1 : Int), .int .i64 (V 2 : Int), .int .i64 (V 3 : Int), .int .i64 (V 4 : Int), .int .i64 (V 5 : Int), .int .i64 (V 6 : Int), .int .i64 (V 7 : Int), .int .i64 (V 8 : Int), .int .i64 (V 9 : Int), .int .i64 (V 10 : Int)] 67
  have B2 := Lib.hid (thence B1.out (thence b2 ha2 (Nat.le_refl _)) (Nat.le_refl _))
  clear ha2
  clear b2 B1
  go_wp2_with fail
  generalize w2.alloc (.cells #[.int .i64 (V 0 : Int), .int .i64 (V 1 : Int), .int .i64 (V 2 : Int), .int .i64 (V 3 : Int), .int .i64 (V 4 : Int), .int .i64 (V 5 : Int), .int .i64 (V 6 : Int), .int .i64 (V 7 : Int), .int .i64 (V 8 : Int), .int .i64 (V 9 : Int), .int .i64 (V 10 : Int)] 67) = W2 at *
  obtain ⟨gp, hgn⟩ : ∃ g, w2.heap.size = g := ⟨_, rfl⟩
  rw [hgn] at BP ⊢
  clear hgn
  obtain ⟨c0, c1, c2, c3, c4, c5, c6, c7, c8, c9⟩ := BX.out.ten
  have ltBX := BX.out.lt
  clear c0 c1 c2 c3 c4 c5 c6 c7 c8 c9 ltBX BX
  clear CK CP
  have CN := Lib.hid (fun w1 => lbNumbers_any gp w1)
  have ltp := BP.out.lt
  go_wp2_with fail
  (with_reducible refine (CN.out _).mono ?_)
  rintro e w3 ⟨g0, g1, rfl, hN, b3⟩
  replace BP := Lib.hid (BP.out.here b3)
  have HN := Lib.hid (hN)
  have B3 := Lib.hid (thence B2.out b3 (Nat.le_refl _))
  clear b3 B2 hN
  clear CN
  go_wp2_with fail
  go_loopw [6, 18] (fun v i wr => ∃ (k : Nat) (a : Option Addr) (n c : Nat), k ≤ 11 ∧ i = .int .i64 (k : Int) ∧ v = .slice a n c ∧ Rd wr.heap.size wr a n c (LB.puts V k) ∧ Below w3.heap.size w3 wr) (fun _ i _ => 11 - (intOf i).toNat)
  case atStart => exact ⟨0, none, 0, 0, by omega, rfl, rfl, rd_nil _ _, Below.refl _ _⟩
  case round =>
    obtain ⟨k, a, n, c, hk, rfl, rfl, hr, hb⟩ := hrel
    have RB := Lib.hid hr
    have HX := Lib.hid hb
    replace BP := Lib.hid (BP.out.here hb)
    replace HN := Lib.hid (HN.out.here hb)
    replace B3 := Lib.hid (thence B3.out hb (Nat.le_refl _))
    clear hb hr
    by_cases hlt : k < 11
    · have ltn := HN.out.2.lt
      have hlt2 : (k : Int) < 11 := by omega
      have cn0 := HN.out.2.cell (k * 3)
      have cn1 := HN.out.2.cell (k * 3 + 1)
      have cn2 := HN.out.2.cell (k * 3 + 2)
      rw [(lbCells_get g0 k hlt).1] at cn0
      rw [(lbCells_get g0 k hlt).2.1] at cn1
      rw [(lbCells_get g0 k hlt).2.2] at cn2
      have PB := Lib.hid (LB.pl_bd hlt)
      have CF := Lib.hid (fun w1 h => lbKept gp g0 k hlt w1 h)
      have EN := Lib.hid (lbEnters k hlt)
      generalize lbFn k = fn at *
      have cp := BP.out.cell k
      rw [show ([.int .i64 (V 0 : Int), .int .i64 (V 1 : Int), .int .i64 (V 2 : Int), .int .i64 (V 3 : Int), .int .i64 (V 4 : Int), .int .i64 (V 5 : Int), .int .i64 (V 6 : Int), .int .i64 (V 7 : Int), .int .i64 (V 8 : Int), .int .i64 (V 9 : Int), .int .i64 (V 10 : Int)] : List Value)[k]? = some (.int .i64 (V k : Int)) from by
        have : k = 0 ∨ k = 1 ∨ k = 2 ∨ k = 3 ∨ k = 4 ∨ k = 5 ∨ k = 6 ∨ k = 7 ∨ k = 8 ∨ k = 9 ∨ k = 10 := by omega
        rcases this with rfl | rfl | rfl | rfl | rfl | rfl | rfl | rfl | rfl | rfl | rfl <;> rfl] at cp
      have HS := Lib.hid (LB.puts_step V hlt)
      have HM : Hid (May (LB.puts V k) (LB.pAt k : Int) (LB.pSz k : Int)) := by
        have := PB.out
        exact ⟨LB.puts_len V (by omega), by omega, by omega, by omega, by omega⟩
      have HV := Lib.hid (HD.out k hlt)
      have HL := Lib.hid (LB.puts_full V (k := k + 1) (by omega) (by omega))
      have HYB : Hid (Bytes (LB.puts V (k + 1))) := LB.puts_bytes
      generalize LB.pAt k = pa at *
      generalize LB.pSz k = ps at *
      generalize LB.puts V k = lk at *
      generalize hq : LB.puts V (k + 1) = lk1 at *
      have HQ := Lib.hid hq
      clear hq
      generalize V k = vk at *
      have ltp := BP.out.lt
      go_wp2_with fail
      have hz : Below wr.heap.size wr (wr.alloc (.cells #[.int .i64 (pa : Int), .int .i64 (ps : Int), .func (.func fn) #[] #[.pointer (some ⟨g0, 0, none⟩)]] 72)) := (Below.refl _ _).alloc (Nat.le_refl _) _
      have BN : Hid (Bx (wr.alloc (.cells #[.int .i64 (pa : Int), .int .i64 (ps : Int), .func (.func fn) #[] #[.pointer (some ⟨g0, 0, none⟩)]] 72)) wr.heap.size [.int .i64 (pa : Int), .int .i64 (ps : Int), .func (.func fn) #[] #[.pointer (some ⟨g0, 0, none⟩)]]) := Bx.new wr [.int .i64 (pa : Int), .int .i64 (ps : Int), .func (.func fn) #[] #[.pointer (some ⟨g0, 0, none⟩)]] 72
      rw [← hz.cell (p := ⟨gp, k, none⟩) ltp] at cp
      replace BP := Lib.hid (BP.out.here hz)
      replace HN := Lib.hid (HN.out.here hz)
      replace RB := Lib.hid (RB.out.here hz)
      replace HX := Lib.hid (thence HX.out hz (Nat.le_refl _))
      clear hz cn0 cn1 cn2 ltn B3
      replace ltp := BP.out.lt
      generalize wr.alloc (.cells #[.int .i64 (pa : Int), .int .i64 (ps : Int), .func (.func fn) #[] #[.pointer (some ⟨g0, 0, none⟩)]] 72) = W0 at *
      obtain ⟨gn, hgn⟩ : ∃ g, wr.heap.size = g := ⟨_, rfl⟩
      rw [hgn] at BN ⊢
      clear hgn
      obtain ⟨m0, m1, m2⟩ := BN.out.three
      have HN1 : Hid (Bx W0 g0 [.pointer (some ⟨gp, 0, none⟩)]) := HN.out.1
      have ltm := BN.out.lt

      refine wp_region_noPanic ?_
      refine PX.wp_region_y (fun w' => Below W0.heap.size W0 w') [] (by kernel_rfl) (Below.refl _ _).drew (fun hHeld => ?_)
      refine PX.wpAnyY_take (i := 0) (oi := ?_) (v := ?_) ?_ (by kernel_rfl) (by kernel_rfl) (by kernel_rfl) (by kernel_rfl) (by kernel_rfl) (fun _ _ _ h => h) (Or.inl ⟨?_, ?_⟩) (by assumption) ?_
      rotate_left 2
      · simp only [List.getElem?_toArray, List.getElem?_cons_succ, List.getElem?_cons_zero]; rfl
      · rfl
      · intro w hSw; (try dsimp only at hSw); go_simp <;> with_reducible rfl
      (try simp only [Act.put, List.setIfInBounds_toArray, List.set_cons_zero, List.set_cons_succ])
      refine PX.wpAnyY_take (i := 1) (oi := ?_) (v := ?_) ?_ (by kernel_rfl) (by kernel_rfl) (by kernel_rfl) (by kernel_rfl) (by kernel_rfl) (fun _ _ _ h => h) (Or.inl ⟨?_, ?_⟩) (by assumption) ?_
      rotate_left 2
      · simp only [List.getElem?_toArray, List.getElem?_cons_succ, List.getElem?_cons_zero]; rfl
      · rfl
      · intro w hSw; (try dsimp only at hSw); go_simp <;> with_reducible rfl
      (try simp only [Act.put, List.setIfInBounds_toArray, List.set_cons_zero, List.set_cons_succ])
      refine PX.wpAnyY_take (i := 2) (oi := ?_) (v := ?_) ?_ (by kernel_rfl) (by kernel_rfl) (by kernel_rfl) (by kernel_rfl) (by kernel_rfl) (fun _ _ _ h => h) (Or.inl ⟨?_, ?_⟩) (by assumption) ?_
      rotate_left 2
      · simp only [List.getElem?_toArray, List.getElem?_cons_succ, List.getElem?_cons_zero]; rfl
      · rfl
      · intro w hSw; (try dsimp only at hSw); have hC := fun (b o : Nat) (h : b < W0.heap.size) => Below.cell hSw (p := ⟨b, o, none⟩) h; go_simp <;> with_reducible rfl
      (try simp only [Act.put, List.setIfInBounds_toArray, List.set_cons_zero, List.set_cons_succ])
      refine PX.wpAnyY_take (i := 3) (oi := ?_) (v := ?_) ?_ (by kernel_rfl) (by kernel_rfl) (by kernel_rfl) (by kernel_rfl) (by kernel_rfl) (fun _ _ _ h => h) (Or.inl ⟨?_, ?_⟩) (by assumption) ?_
      rotate_left 2
      · simp only [List.getElem?_toArray, List.getElem?_cons_succ, List.getElem?_cons_zero]; rfl
      · rfl
      · intro w hSw; (try dsimp only at hSw); go_simp <;> with_reducible rfl
      (try simp only [Act.put, List.setIfInBounds_toArray, List.set_cons_zero, List.set_cons_succ])
      refine PX.wpAnyY_take (i := 4) (oi := ?_) (v := ?_) ?_ (by kernel_rfl) (by kernel_rfl) (by kernel_rfl) (by kernel_rfl) (by kernel_rfl) (fun _ _ _ h => h) (Or.inl ⟨?_, ?_⟩) (by assumption) ?_
      rotate_left 2
      · simp only [List.getElem?_toArray, List.getElem?_cons_succ, List.getElem?_cons_zero]; rfl
      · rfl
      · intro w hSw; (try dsimp only at hSw); have hC := fun (b o : Nat) (h : b < W0.heap.size) => Below.cell hSw (p := ⟨b, o, none⟩) h; go_simp <;> with_reducible rfl
      (try simp only [Act.put, List.setIfInBounds_toArray, List.set_cons_zero, List.set_cons_succ])
      refine PX.wpAnyY_one (i := 5) (o := ?_) (by kernel_rfl) ?_ (fun Kq hKq => ?_)
      rotate_left
      · simp only [List.getElem?_toArray, List.getElem?_cons_succ, List.getElem?_cons_zero]; rfl
      go_simp
      refine hKq.out _ _ (hHeld) (fun hHeld => ?_)
      clear hKq Kq
      (try simp only [Act.put, List.setIfInBounds_toArray, List.set_cons_zero, List.set_cons_succ])
      refine PX.wpAnyY_take (i := 6) (oi := ?_) (v := ?_) ?_ (by kernel_rfl) (by kernel_rfl) (by kernel_rfl) (by kernel_rfl) (by kernel_rfl) (fun _ _ _ h => h) (Or.inl ⟨?_, ?_⟩) (by assumption) ?_
      rotate_left 2
      · simp only [List.getElem?_toArray, List.getElem?_cons_succ, List.getElem?_cons_zero]; rfl
      · rfl
      · intro w hSw; (try dsimp only at hSw); have hC := fun (b o : Nat) (h : b < W0.heap.size) => Below.cell hSw (p := ⟨b, o, none⟩) h; go_simp <;> with_reducible rfl
      (try simp only [Act.put, List.setIfInBounds_toArray, List.set_cons_zero, List.set_cons_succ])
      refine PX.wpAnyY_one (i := 7) (o := ?_) (by kernel_rfl) ?_ (fun Kq hKq => ?_)
      rotate_left
      · simp only [List.getElem?_toArray, List.getElem?_cons_succ, List.getElem?_cons_zero]; rfl
      go_simp
      rw [EN.out, Oper.upon_enter]
      (with_reducible refine (CF.out _ (HN1.out.here hHeld)).mono ?_)
      rintro e w4 ⟨rfl, bqw4⟩
      have Hw4 := Lib.hid (thence hHeld bqw4 (Nat.le_refl _))
      clear bqw4
      go_wp2_with fail
      refine hKq.out _ _ (Hw4.out) (fun hHeld => ?_)
      clear hKq Kq
      (try simp only [Act.put, List.setIfInBounds_toArray, List.set_cons_zero, List.set_cons_succ])
      refine PX.wpAnyY_one (i := 8) (o := ?_) (by kernel_rfl) ?_ (fun Kq hKq => ?_)
      rotate_left
      · simp only [List.getElem?_toArray, List.getElem?_cons_succ, List.getElem?_cons_zero]; rfl
      go_simp
      refine hKq.out _ _ (hHeld) (fun hHeld => ?_)
      clear hKq Kq
      (try simp only [Act.put, List.setIfInBounds_toArray, List.set_cons_zero, List.set_cons_succ])
      refine PX.wpAnyY_take (i := 9) (oi := ?_) (v := ?_) ?_ (by kernel_rfl) (by kernel_rfl) (by kernel_rfl) (by kernel_rfl) (by kernel_rfl) (fun _ _ _ h => h) (Or.inl ⟨?_, ?_⟩) (by assumption) ?_
      rotate_left 2
      · simp only [List.getElem?_toArray, List.getElem?_cons_succ, List.getElem?_cons_zero]; rfl
      · rfl
      · intro w hSw; (try dsimp only at hSw); have hC := fun (b o : Nat) (h : b < W0.heap.size) => Below.cell hSw (p := ⟨b, o, none⟩) h; go_simp <;> with_reducible rfl
      (try simp only [Act.put, List.setIfInBounds_toArray, List.set_cons_zero, List.set_cons_succ])
      refine PX.wpAnyY_one (i := 10) (o := ?_) (by kernel_rfl) ?_ (fun Kq hKq => ?_)
      rotate_left
      · simp only [List.getElem?_toArray, List.getElem?_cons_succ, List.getElem?_cons_zero]; rfl
      go_simp
      (with_reducible refine (put_ok a n c lk pa ps vk _ (RB.out.here hHeld) HM.out HV.out).mono ?_)
      rintro e w5 ⟨g5, rfl, hge, hblk, bqw5⟩
      have Hw5 := Lib.hid (thence hHeld bqw5 (Nat.le_refl _))
      have BK := Lib.hid hblk
      clear hblk
      clear bqw5
      go_wp2_with fail
      refine hKq.out _ _ (Hw5.out) (fun hHeld => ?_)
      clear hKq Kq
      (try simp only [Act.put, List.setIfInBounds_toArray, List.set_cons_zero, List.set_cons_succ])
      refine PX.wpAnyY_one (i := 11) (o := ?_) (by kernel_rfl) ?_ (fun Kq hKq => ?_)
      rotate_left
      · simp only [List.getElem?_toArray, List.getElem?_cons_succ, List.getElem?_cons_zero]; rfl
      go_simp
      refine hKq.out _ _ (hHeld) (fun hHeld => ?_)
      clear hKq Kq
      (try simp only [Act.put, List.setIfInBounds_toArray, List.set_cons_zero, List.set_cons_succ])
      refine PX.wpAnyY_take (i := 12) (oi := ?_) (v := ?_) ?_ (by kernel_rfl) (by kernel_rfl) (by kernel_rfl) (by kernel_rfl) (by kernel_rfl) (fun _ _ _ h => h) (Or.inl ⟨?_, ?_⟩) (by assumption) ?_
      rotate_left 2
      · simp only [List.getElem?_toArray, List.getElem?_cons_succ, List.getElem?_cons_zero]; rfl
      · rfl
      · intro w hSw; (try dsimp only at hSw); go_simp <;> with_reducible rfl
      (try simp only [Act.put, List.setIfInBounds_toArray, List.set_cons_zero, List.set_cons_succ])
      refine PX.wpAnyY_take (i := 13) (oi := ?_) (v := ?_) ?_ (by kernel_rfl) (by kernel_rfl) (by kernel_rfl) (by kernel_rfl) (by kernel_rfl) (fun _ _ _ h => h) (Or.inl ⟨?_, ?_⟩) (by assumption) ?_
      rotate_left 2
      · simp only [List.getElem?_toArray, List.getElem?_cons_succ, List.getElem?_cons_zero]; rfl
      · rfl
      · intro w hSw; (try dsimp only at hSw); go_simp <;> with_reducible rfl
      (try simp only [Act.put, List.setIfInBounds_toArray, List.set_cons_zero, List.set_cons_succ])
      refine PX.wpAnyY_one (i := 14) (o := ?_) (by kernel_rfl) ?_ (fun Kq hKq => ?_)
      rotate_left
      · simp only [List.getElem?_toArray, List.getElem?_cons_succ, List.getElem?_cons_zero]; rfl
      go_simp
      refine hKq.out _ _ (hHeld) (fun hHeld => ?_)
      clear hKq Kq
      (try simp only [Act.put, List.setIfInBounds_toArray, List.set_cons_zero, List.set_cons_succ])
      refine PX.wpAnyY_done (by kernel_rfl) ?_ _
      refine NoPanic.normal ?_
      have HW5 := Lib.hid (thence HX.out Hw5.out (Nat.le_refl _))
      clear hHeld
      go_wp2_with fail
      go_roundw
      case rel => exact ⟨k + 1, some ⟨g5, 0, none⟩, 128, 128, by omega, by go_num, rfl, (by rw [HS.out] at BK; rw [HQ.out]; exact BK.out.rd HL.out HYB.out), HW5.out⟩
      case measure => simp [intOf]; omega
    · obtain rfl : k = 11 := by omega
      have HF := Lib.hid (LB.puts_full V (k := 11) (by omega) (by omega))
      have hn : n = 128 := by rw [RB.out.long]; exact HF.out
      subst hn
      have HM : Hid (May (LB.puts V 11) (((124 : Nat)) : Int) (((4 : Nat)) : Int)) := ⟨.inr HF.out, by decide, by decide, by decide, by decide⟩
      have HO : Hid (PM.over 0 ((LB.puts V 11).take 124) < 256 ^ 4) := PM.over_lt _ _
      generalize LB.puts V 11 = lk at *
      have CS := Lib.hid (fun w1 hr => pgSum_any a 124 c (lk.take 124) w1 hr)
      have hc : (128 : Nat) ≤ c := by have := RB.out.fits; rw [HF.out] at this; exact this
      generalize PM.over 0 (lk.take 124) = sm at *
      have hsm : wrap64 (sm : Int) = (sm : Int) := IntWalk.wrap64_in _ (by have := HO.out; omega)
      have hlt2 : ¬ ((11 : Nat) : Int) < 11 := by omega
      have RT := Lib.hid (RB.out.take 124 (by omega))
      have CU : Hid (∀ w1, Rd w1.heap.size w1 a 128 c lk → Calls Try.prog 33 #[.slice a 128 c, .int .i64 124, .int .i64 4, .int .i64 (sm : Int)] w1 (NewBlk w1 (PK.pk (PK.wh lk) 124 sm 4))) := fun w1 hr => put_ok a 128 c lk 124 4 sm w1 hr HM.out HO.out
      rw [HB.out] at CU
      have HML : Hid (M.length = 128) := by rw [← HB.out, PK.pk_length]; exact PK.wh_length (by rw [HF.out]; decide)
      clear hlt hk HF HM HB HO
      go_wp2_with fail
      (with_reducible refine (CS.out _ RT.out).mono ?_)
      rintro e w4 ⟨rfl, b4⟩
      replace RB := Lib.hid (RB.out.here b4)
      have B4 := Lib.hid (thence B3.out b4 (Nat.le_refl _))
      clear b4 RT CS
      go_wp2_with fail
      (with_reducible refine (CU.out _ RB.out).mono ?_)
      rintro e w5 ⟨g5, rfl, hge, hblk, b5⟩
      have BK := Lib.hid hblk
      have B5 := Lib.hid (thence B4.out b5 (Nat.le_refl _))
      have hlow : w.heap.size ≤ g5 := Nat.le_trans B4.out.size hge
      clear hblk b5
      go_wp2_with fail
      go_ret2
      exact ⟨some ⟨g5, 0, none⟩, 128, rfl, BK.out.rd HML.out HY.out, ⟨g5, rfl, hlow, fun i => BK.out.frozen i⟩, B5.out⟩
end Go.Proofs.Ytjdcnajppjamgaa.PW
