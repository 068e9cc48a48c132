/-
  Layer 9: what the program's own calls answer.
-/
import Derived.Test.YtjdcnajppjamgaaLabelPuts
namespace Go.Proofs.Ytjdcnajppjamgaa.PW
open Go.RowKit
open LB (Lab)
set_option linter.unusedVariables false
set_option linter.unusedSimpArgs false
set_option maxRecDepth 100000


theorem Bx.ne {w : World} {g g' : Nat} {cs ds : List Value} (h : Bx w g cs) (k : Bx w g' ds) (i : Nat) (hi : cs[i]? ≠ ds[i]?) : g ≠ g' := fun e => by
  subst e
  apply hi
  rw [← h.cell i, ← k.cell i]
theorem lbEqual_any (a : Option Addr) (n c : Nat) (l : List Nat) (b : Option Addr) (n' c' : Nat) (m : List Nat) (w : World) (hr : Rd w.heap.size w a n c l) (hq : Rd w.heap.size w b n' c' m) :
    Calls Try.prog 22 #[.slice a n c, .slice b n' c'] w fun e w' => e = .returned (.bool (decide (l = m))) ∧ Below w.heap.size w w' := by
  have t1 := text_is w a n c l hr
  have t2 := text_is w b n' c' m hq
  have t3 := str_two hr.byt hq.byt
  generalize str l = x at *
  generalize str m = y at *
  generalize decide (l = m) = d at *
  clear hr hq
  go_enter Try.func22, Try.ntmps22
  go_wp2_with fail
  go_ret
  exact ⟨rfl, Below.refl _ _⟩
def lbVals (m : List Nat) (k : Nat) : List Value := (LB.red m k).map fun (n : Nat) => .int .i64 (n : Int)
theorem lbVals_zero (m : List Nat) : lbVals m 0 = [.int .i64 0, .int .i64 0, .int .i64 0, .int .i64 0, .int .i64 0, .int .i64 0, .int .i64 0, .int .i64 0, .int .i64 0, .int .i64 0, .int .i64 0] := by unfold lbVals; rw [LB.red_zero]; rfl
theorem lbVals_get (m : List Nat) (k : Nat) (hk : k < 11) : (lbVals m k)[k]? = some (.int .i64 0) := by
  unfold lbVals LB.red
  simp [hk]
theorem lbVals_set (m : List Nat) (k : Nat) (hk : k < 11) : (lbVals m k).set k (.int .i64 (PK.tv m (LB.pAt k) (LB.pSz k) : Nat)) = lbVals m (k + 1) := by
  unfold lbVals
  rw [← LB.red_step m hk, List.map_set]
set_option maxHeartbeats 4000000 in
theorem lbRead_text (a : Option Addr) (n c : Nat) (l : List Nat) (w : World) (hr : Rd w.heap.size w a n c l) (h0 : l.length ≠ 0) (h1 : l.length ≠ 128) :
    Calls Try.prog 17 #[.slice a n c] w fun e w' => e = .returned (.tuple #[.agg #[.int .u32 0, .int .u32 0, .int .i64 0, .int .i64 0, .int .i64 0, .int .i64 0, .int .i64 0, .int .i64 0, .int .i64 0, .bool false], .int .i64 3]) ∧ Below w.heap.size w w' := by
  have CT := Lib.hid (fun (p q : Nat) w1 hr => (take_text a n c l (p : Int) (q : Int) w1 hr h0 h1).mono (fun e w' h => (⟨h.1, h.2 ▸ Below.refl _ _⟩ : e = .returned (.tuple #[.int .i64 0, .int .i64 3]) ∧ Below w1.heap.size w1 w')))
  clear h0 h1
  have B0 : Hid (Below w.heap.size w ((w.alloc (.cells #[.int .u32 0, .int .u32 0, .int .i64 0, .int .i64 0, .int .i64 0, .int .i64 0, .int .i64 0, .int .i64 0, .int .i64 0, .bool false] 43)).alloc (.cells #[.int .i64 0, .int .i64 0, .int .i64 0, .int .i64 0, .int .i64 0, .int .i64 0, .int .i64 0, .int .i64 0, .int .i64 0, .int .i64 0, .int .i64 0] 67))) := ((Below.refl _ _).alloc (Nat.le_refl _) _).alloc (by simp) _
  have BR : Hid (Bx ((w.alloc (.cells #[.int .u32 0, .int .u32 0, .int .i64 0, .int .i64 0, .int .i64 0, .int .i64 0, .int .i64 0, .int .i64 0, .int .i64 0, .bool false] 43)).alloc (.cells #[.int .i64 0, .int .i64 0, .int .i64 0, .int .i64 0, .int .i64 0, .int .i64 0, .int .i64 0, .int .i64 0, .int .i64 0, .int .i64 0, .int .i64 0] 67)) w.heap.size [.int .u32 0, .int .u32 0, .int .i64 0, .int .i64 0, .int .i64 0, .int .i64 0, .int .i64 0, .int .i64 0, .int .i64 0, .bool false]) := (Bx.new w [.int .u32 0, .int .u32 0, .int .i64 0, .int .i64 0, .int .i64 0, .int .i64 0, .int .i64 0, .int .i64 0, .int .i64 0, .bool false] 43).alloc _
  have BP : Hid (Bx ((w.alloc (.cells #[.int .u32 0, .int .u32 0, .int .i64 0, .int .i64 0, .int .i64 0, .int .i64 0, .int .i64 0, .int .i64 0, .int .i64 0, .bool false] 43)).alloc (.cells #[.int .i64 0, .int .i64 0, .int .i64 0, .int .i64 0, .int .i64 0, .int .i64 0, .int .i64 0, .int .i64 0, .int .i64 0, .int .i64 0, .int .i64 0] 67)) (w.heap.size + 1) [.int .i64 0, .int .i64 0, .int .i64 0, .int .i64 0, .int .i64 0, .int .i64 0, .int .i64 0, .int .i64 0, .int .i64 0, .int .i64 0, .int .i64 0]) := by have h := Bx.new (w.alloc (.cells #[.int .u32 0, .int .u32 0, .int .i64 0, .int .i64 0, .int .i64 0, .int .i64 0, .int .i64 0, .int .i64 0, .int .i64 0, .bool false] 43)) [.int .i64 0, .int .i64 0, .int .i64 0, .int .i64 0, .int .i64 0, .int .i64 0, .int .i64 0, .int .i64 0, .int .i64 0, .int .i64 0, .int .i64 0] 67; rw [World.size_alloc] at h; exact h
  have RB : Hid (Rd ((w.alloc (.cells #[.int .u32 0, .int .u32 0, .int .i64 0, .int .i64 0, .int .i64 0, .int .i64 0, .int .i64 0, .int .i64 0, .int .i64 0, .bool false] 43)).alloc (.cells #[.int .i64 0, .int .i64 0, .int .i64 0, .int .i64 0, .int .i64 0, .int .i64 0, .int .i64 0, .int .i64 0, .int .i64 0, .int .i64 0, .int .i64 0] 67)).heap.size ((w.alloc (.cells #[.int .u32 0, .int .u32 0, .int .i64 0, .int .i64 0, .int .i64 0, .int .i64 0, .int .i64 0, .int .i64 0, .int .i64 0, .bool false] 43)).alloc (.cells #[.int .i64 0, .int .i64 0, .int .i64 0, .int .i64 0, .int .i64 0, .int .i64 0, .int .i64 0, .int .i64 0, .int .i64 0, .int .i64 0, .int .i64 0] 67)) a n c l) := hr.here (((Below.refl _ _).alloc (Nat.le_refl _) _).alloc (by simp) _)
  clear hr
  go_enter Try.func17, Try.ntmps17
  go_wp2_with fail
  generalize ((w.alloc (.cells #[.int .u32 0, .int .u32 0, .int .i64 0, .int .i64 0, .int .i64 0, .int .i64 0, .int .i64 0, .int .i64 0, .int .i64 0, .bool false] 43)).alloc (.cells #[.int .i64 0, .int .i64 0, .int .i64 0, .int .i64 0, .int .i64 0, .int .i64 0, .int .i64 0, .int .i64 0, .int .i64 0, .int .i64 0, .int .i64 0] 67)) = W2 at *
  have hgp : w.heap.size ≤ w.heap.size + 1 := Nat.le_succ _
  obtain ⟨gp, hgn⟩ : ∃ g, w.heap.size + 1 = g := ⟨_, rfl⟩
  rw [hgn] at BP hgp ⊢
  clear hgn
  have CN := Lib.hid (fun w1 => lbNumbers_any gp w1)
  have ltp := BP.out.lt
  go_wp2_with fail
  (with_reducible refine (CN.out _).mono ?_)
  rintro e w1 ⟨g0, g1, rfl, hN, b1⟩
  replace BR := Lib.hid (BR.out.here b1)
  replace BP := Lib.hid (BP.out.here b1)
  replace RB := Lib.hid (RB.out.here b1)
  have HN := Lib.hid (hN)
  have B1 := Lib.hid (thence B0.out b1 (Nat.le_refl _))
  clear b1 B0 hN
  clear CN ltp
  go_wp2_with fail
  go_loopw [14] (fun i wr => i = .int .i64 0 ∧ Below w1.heap.size w1 wr) (fun _ _ => 0)
  case atStart => exact ⟨rfl, Below.refl _ _⟩
  case round =>
    obtain ⟨rfl, hb⟩ := hrel
    replace HN := Lib.hid (HN.out.here hb)
    replace RB := Lib.hid (RB.out.here hb)
    replace BR := Lib.hid (BR.out.here hb)
    replace B1 := Lib.hid (thence B1.out hb (Nat.le_refl _))
    clear hb
    have ltn := HN.out.2.lt
    have cn0 := HN.out.2.cell 0
    have cn1 := HN.out.2.cell 1
    have cn2 := HN.out.2.cell 2
    have g := lbCells_get g0 0 (by decide)
    rw [show (lbCells g0)[0]? = _ from g.1] at cn0
    rw [show (lbCells g0)[1]? = _ from g.2.1] at cn1
    rw [show (lbCells g0)[2]? = _ from g.2.2] at cn2
    clear g
    generalize lbFn 0 = fn at *
    generalize LB.pAt 0 = pa at *
    generalize LB.pSz 0 = ps at *
    go_wp2_with fail
    have ha : Below wr.heap.size wr (wr.alloc (.cells #[.int .i64 (pa : Int), .int .i64 (ps : Int), .func (.func fn) #[] #[.pointer (some ⟨g0, 0, none⟩)]] 72)) := (Below.refl _ _).alloc (Nat.le_refl _) _
    replace RB := Lib.hid (RB.out.here ha)
    replace BR := Lib.hid (BR.out.here ha)
    replace B1 := Lib.hid (thence B1.out ha (Nat.le_refl _))
    clear ha
    (with_reducible refine (CT.out _ _ _ RB.out).mono ?_)
    rintro e w2 ⟨rfl, b2⟩
    replace BR := Lib.hid (BR.out.here b2)
    replace B1 := Lib.hid (thence B1.out b2 (Nat.le_refl _))
    clear b2 cn0 cn1 cn2 RB HN CT BP

    have lr := BR.out.lt
    obtain ⟨r0, r1, r2, r3, r4, r5, r6, r7, r8, r9⟩ := BR.out.ten
    have fr0 := BR.out.frozen 0
    have fr1 := BR.out.frozen 1
    have fr2 := BR.out.frozen 2
    have fr3 := BR.out.frozen 3
    have fr4 := BR.out.frozen 4
    have fr5 := BR.out.frozen 5
    have fr6 := BR.out.frozen 6
    have fr7 := BR.out.frozen 7
    have fr8 := BR.out.frozen 8
    have fr9 := BR.out.frozen 9
    go_wp2_with fail
    have hb := ((((((((((B1.out.setCell (p := ⟨w.heap.size, 0, none⟩) (Nat.le_refl _) (.int .u32 0)).setCell (p := ⟨w.heap.size, 1, none⟩) (Nat.le_refl _) (.int .u32 0)).setCell (p := ⟨w.heap.size, 2, none⟩) (Nat.le_refl _) (.int .i64 0)).setCell (p := ⟨w.heap.size, 3, none⟩) (Nat.le_refl _) (.int .i64 0)).setCell (p := ⟨w.heap.size, 4, none⟩) (Nat.le_refl _) (.int .i64 0)).setCell (p := ⟨w.heap.size, 5, none⟩) (Nat.le_refl _) (.int .i64 0)).setCell (p := ⟨w.heap.size, 6, none⟩) (Nat.le_refl _) (.int .i64 0)).setCell (p := ⟨w.heap.size, 7, none⟩) (Nat.le_refl _) (.int .i64 0)).setCell (p := ⟨w.heap.size, 8, none⟩) (Nat.le_refl _) (.int .i64 0)).setCell (p := ⟨w.heap.size, 9, none⟩) (Nat.le_refl _) (.bool false))
    exact bodyPost_ret (v := .tuple #[.agg #[.int .u32 0, .int .u32 0, .int .i64 0, .int .i64 0, .int .i64 0, .int .i64 0, .int .i64 0, .int .i64 0, .int .i64 0, .bool false], .int .i64 3]) (by simp [results, Try.results17, go_sem, lr, r0, r1, r2, r3, r4, r5, r6, r7, r8, r9]) rfl ⟨rfl, hb⟩

theorem lbLabel_parse (g : Nat) (m : List Nat) (hm : Bytes m) (w : World) (BX : Hid (Bx w g (lbVals m 11))) :
    Calls Try.prog 30 #[.pointer (some ⟨g, 0, none⟩)] w fun e w' => e = .returned (labV (LB.parse m)) ∧ Below w.heap.size w w' := by
  have h := lbLabel_any g (PK.tv m 0 1) (PK.tv m 1 4) (PK.tv m 5 4) (PK.tv m 9 1) (PK.tv m 10 1) (PK.tv m 11 1) (PK.tv m 12 1) (PK.tv m 13 1) (PK.tv m 14 1) (PK.tv m 15 1) (PK.tv m 16 1) w BX (LB.tv_lt4 hm 1) (LB.tv_lt4 hm 5)
  rw [LB.tv_one m 9, LB.tv_one m 10, LB.tv_one m 11, LB.tv_one m 12, LB.tv_one m 13, LB.tv_one m 14, LB.tv_one m 15, LB.tv_one m 16] at h
  exact h
set_option maxHeartbeats 4000000 in
theorem lbRead_go (a : Option Addr) (n c : Nat) (l : List Nat) (w : World) (hr : Rd w.heap.size w a n c l) (h0 : l.length = 0 ∨ l.length = 128) :
    Calls Try.prog 17 #[.slice a n c] w fun e w' => e = .returned (.tuple #[labV (LB.rd l).1, .int .i64 (((LB.rd l).2 : Nat) : Int)]) ∧ Below w.heap.size w w' := by
  have HMB : Hid (Bytes (PK.wh l)) := PK.wh_bytes hr.byt
  have CT := Lib.hid (fun (k : Nat) (hk : k < 11) w1 hr => take_ok a n c l (LB.pAt k) (LB.pSz k) w1 hr ⟨h0, by have := LB.pl_bd hk; omega, by have := LB.pl_bd hk; omega, by have := LB.pl_bd hk; omega, by have := LB.pl_bd hk; omega⟩)
  have CL := Lib.hid (fun g w1 BX => lbLabel_parse g (PK.wh l) HMB.out w1 BX)
  have HI : Hid ((LB.parse (PK.wh l)).id < 4294967296) := LB.tv_lt4 HMB.out 1
  have HR := Lib.hid hr
  obtain ⟨rv, hrv⟩ : ∃ x : Value, x = labV (LB.rd l).1 := ⟨_, rfl⟩
  obtain ⟨rc, hrc⟩ : ∃ x : Int, x = (((LB.rd l).2 : Nat) : Int) := ⟨_, rfl⟩
  rw [← hrv, ← hrc]
  have NO : Hid (LB.good (PK.wh l) = false → rv = .agg #[.int .u32 0, .int .u32 0, .int .i64 0, .int .i64 0, .int .i64 0, .int .i64 0, .int .i64 0, .int .i64 0, .int .i64 0, .bool false] ∧ rc = 90) := fun hg => by rw [hrv, hrc, LB.rd_sum h0 hg]; exact ⟨rfl, rfl⟩
  have YES : Hid (LB.good (PK.wh l) = true → rv = labV (LB.parse (PK.wh l)) ∧ rc = 0) := fun hg => by rw [hrv, hrc, LB.rd_good h0 hg]; exact ⟨rfl, rfl⟩
  have GD : Hid (LB.good (PK.wh l) = ((LB.parse (PK.wh l)).may && decide (l = (LB.parse (PK.wh l)).block))) := by
    show _ = _
    unfold LB.good
    cases hm : (LB.parse (PK.wh l)).may with
    | false => rfl
    | true =>
      rw [Bool.true_and, Bool.true_and, decide_eq_decide]
      rcases h0 with h0 | h0
      · have e := List.eq_nil_of_length_eq_zero h0
        subst e
        constructor
        · intro h
          have h1 := LB.block_get (LB.parse (PK.wh [])) 0 (by decide)
          rw [h] at h1
          exact absurd h1 (by rw [PK.wh_get]; decide)
        · intro h
          have h1 := LB.block_length (LB.parse (PK.wh []))
          rw [← h] at h1
          cases h1
      · rw [PK.wh_full h0]
        exact ⟨fun h => h.symm, fun h => h.symm⟩
  clear hrv hrc h0
  generalize LB.good (PK.wh l) = gd at *
  generalize PK.wh l = m at *
  have B0 : Hid (Below w.heap.size w ((w.alloc (.cells #[.int .u32 0, .int .u32 0, .int .i64 0, .int .i64 0, .int .i64 0, .int .i64 0, .int .i64 0, .int .i64 0, .int .i64 0, .bool false] 43)).alloc (.cells #[.int .i64 0, .int .i64 0, .int .i64 0, .int .i64 0, .int .i64 0, .int .i64 0, .int .i64 0, .int .i64 0, .int .i64 0, .int .i64 0, .int .i64 0] 67))) := ((Below.refl _ _).alloc (Nat.le_refl _) _).alloc (by simp) _
  have BR : Hid (Bx ((w.alloc (.cells #[.int .u32 0, .int .u32 0, .int .i64 0, .int .i64 0, .int .i64 0, .int .i64 0, .int .i64 0, .int .i64 0, .int .i64 0, .bool false] 43)).alloc (.cells #[.int .i64 0, .int .i64 0, .int .i64 0, .int .i64 0, .int .i64 0, .int .i64 0, .int .i64 0, .int .i64 0, .int .i64 0, .int .i64 0, .int .i64 0] 67)) w.heap.size [.int .u32 0, .int .u32 0, .int .i64 0, .int .i64 0, .int .i64 0, .int .i64 0, .int .i64 0, .int .i64 0, .int .i64 0, .bool false]) := (Bx.new w [.int .u32 0, .int .u32 0, .int .i64 0, .int .i64 0, .int .i64 0, .int .i64 0, .int .i64 0, .int .i64 0, .int .i64 0, .bool false] 43).alloc _
  have BP : Hid (Bx ((w.alloc (.cells #[.int .u32 0, .int .u32 0, .int .i64 0, .int .i64 0, .int .i64 0, .int .i64 0, .int .i64 0, .int .i64 0, .int .i64 0, .bool false] 43)).alloc (.cells #[.int .i64 0, .int .i64 0, .int .i64 0, .int .i64 0, .int .i64 0, .int .i64 0, .int .i64 0, .int .i64 0, .int .i64 0, .int .i64 0, .int .i64 0] 67)) (w.heap.size + 1) [.int .i64 0, .int .i64 0, .int .i64 0, .int .i64 0, .int .i64 0, .int .i64 0, .int .i64 0, .int .i64 0, .int .i64 0, .int .i64 0, .int .i64 0]) := by have h := Bx.new (w.alloc (.cells #[.int .u32 0, .int .u32 0, .int .i64 0, .int .i64 0, .int .i64 0, .int .i64 0, .int .i64 0, .int .i64 0, .int .i64 0, .bool false] 43)) [.int .i64 0, .int .i64 0, .int .i64 0, .int .i64 0, .int .i64 0, .int .i64 0, .int .i64 0, .int .i64 0, .int .i64 0, .int .i64 0, .int .i64 0] 67; rw [World.size_alloc] at h; exact h
  have RB : Hid (Rd ((w.alloc (.cells #[.int .u32 0, .int .u32 0, .int .i64 0, .int .i64 0, .int .i64 0, .int .i64 0, .int .i64 0, .int .i64 0, .int .i64 0, .bool false] 43)).alloc (.cells #[.int .i64 0, .int .i64 0, .int .i64 0, .int .i64 0, .int .i64 0, .int .i64 0, .int .i64 0, .int .i64 0, .int .i64 0, .int .i64 0, .int .i64 0] 67)).heap.size ((w.alloc (.cells #[.int .u32 0, .int .u32 0, .int .i64 0, .int .i64 0, .int .i64 0, .int .i64 0, .int .i64 0, .int .i64 0, .int .i64 0, .bool false] 43)).alloc (.cells #[.int .i64 0, .int .i64 0, .int .i64 0, .int .i64 0, .int .i64 0, .int .i64 0, .int .i64 0, .int .i64 0, .int .i64 0, .int .i64 0, .int .i64 0] 67)) a n c l) := hr.here (((Below.refl _ _).alloc (Nat.le_refl _) _).alloc (by simp) _)
  clear hr
  go_enter Try.func17, Try.ntmps17
  go_wp2_with fail
  generalize ((w.alloc (.cells #[.int .u32 0, .int .u32 0, .int .i64 0, .int .i64 0, .int .i64 0, .int .i64 0, .int .i64 0, .int .i64 0, .int .i64 0, .bool false] 43)).alloc (.cells #[.int .i64 0, .int .i64 0, .int .i64 0, .int .i64 0, .int .i64 0, .int .i64 0, .int .i64 0, .int .i64 0, .int .i64 0, .int .i64 0, .int .i64 0] 67)) = W2 at *
  have hgp : w.heap.size ≤ w.heap.size + 1 := Nat.le_succ _
  obtain ⟨gp, hgn⟩ : ∃ g, w.heap.size + 1 = g := ⟨_, rfl⟩
  rw [hgn] at BP hgp ⊢
  clear hgn
  have CN := Lib.hid (fun w1 => lbNumbers_any gp w1)
  have ltp := BP.out.lt
  go_wp2_with fail
  (with_reducible refine (CN.out _).mono ?_)
  rintro e w1 ⟨g0, g1, rfl, hN, b1⟩
  replace BR := Lib.hid (BR.out.here b1)
  replace BP := Lib.hid (BP.out.here b1)
  replace RB := Lib.hid (RB.out.here b1)
  have HN := Lib.hid (hN)
  have B1 := Lib.hid (thence B0.out b1 (Nat.le_refl _))
  clear b1 B0 hN
  clear CN ltp
  go_wp2_with fail
  have ng0 : gp ≠ g0 := BP.out.ne HN.out.1 0 (by intro h; cases h)
  have ng1 : gp ≠ g1 := BP.out.ne HN.out.2 2 (by intro h; cases h)
  have ngr : gp ≠ w.heap.size := BP.out.ne BR.out 0 (by intro h; cases h)
  clear RB
  go_loopw [14] (fun i wr => ∃ k : Nat, k ≤ 11 ∧ i = .int .i64 (k : Int) ∧ Bx wr gp (lbVals m k) ∧ NumsAt wr gp g0 g1 ∧ Bx wr w.heap.size [.int .u32 0, .int .u32 0, .int .i64 0, .int .i64 0, .int .i64 0, .int .i64 0, .int .i64 0, .int .i64 0, .int .i64 0, .bool false] ∧ Below w.heap.size w wr) (fun i _ => 11 - (intOf i).toNat)
  case atStart => exact ⟨0, by omega, rfl, by rw [lbVals_zero]; exact BP.out, HN.out, BR.out, B1.out⟩
  case round =>
    clear BP HN BR B1
    obtain ⟨k, hk, rfl, hbp, hnm, hbr, hb⟩ := hrel
    have BP := Lib.hid hbp
    have HN := Lib.hid hnm
    have BR := Lib.hid hbr
    have B1 := Lib.hid hb
    have RB := Lib.hid ((HR.out.below hb).mono hb.size)
    clear hbp hnm hbr hb
    by_cases hlt : k < 11
    · have ltn := HN.out.2.lt
      have hlt2 : (k : Int) < 11 := by omega
      have cn0 := HN.out.2.cell (k * 3)
      have cn1 := HN.out.2.cell (k * 3 + 1)
      have cn2 := HN.out.2.cell (k * 3 + 2)
      rw [(lbCells_get g0 k hlt).1] at cn0
      rw [(lbCells_get g0 k hlt).2.1] at cn1
      rw [(lbCells_get g0 k hlt).2.2] at cn2
      have CF := Lib.hid (fun w1 h => lbKept gp g0 k hlt w1 h)
      have EN := lbEnters k hlt
      have C1 := Lib.hid (CT.out k hlt)
      have HS := Lib.hid (lbVals_set m k hlt)
      have HG := Lib.hid (lbVals_get m k hlt)
      unfold Enters at EN
      generalize lbFn k = fn at *
      generalize PK.tv m (LB.pAt k) (LB.pSz k) = x at *
      generalize LB.pAt k = pa at *
      generalize LB.pSz k = ps at *
      clear CT CL NO YES GD HI HMB
      go_wp2_with fail
      have hz : Below wr.heap.size wr (wr.alloc (.cells #[.int .i64 (pa : Int), .int .i64 (ps : Int), .func (.func fn) #[] #[.pointer (some ⟨g0, 0, none⟩)]] 72)) := (Below.refl _ _).alloc (Nat.le_refl _) _
      have BN : Hid (Bx (wr.alloc (.cells #[.int .i64 (pa : Int), .int .i64 (ps : Int), .func (.func fn) #[] #[.pointer (some ⟨g0, 0, none⟩)]] 72)) wr.heap.size [.int .i64 (pa : Int), .int .i64 (ps : Int), .func (.func fn) #[] #[.pointer (some ⟨g0, 0, none⟩)]]) := Bx.new wr [.int .i64 (pa : Int), .int .i64 (ps : Int), .func (.func fn) #[] #[.pointer (some ⟨g0, 0, none⟩)]] 72
      replace BP := Lib.hid (BP.out.here hz)
      replace HN := Lib.hid (HN.out.here hz)
      replace RB := Lib.hid (RB.out.here hz)
      replace BR := Lib.hid (BR.out.here hz)
      replace B1 := Lib.hid (thence B1.out hz (Nat.le_refl _))
      clear hz cn0 cn1 cn2 ltn
      generalize wr.alloc (.cells #[.int .i64 (pa : Int), .int .i64 (ps : Int), .func (.func fn) #[] #[.pointer (some ⟨g0, 0, none⟩)]] 72) = W0 at *
      obtain ⟨gn, hgn⟩ : ∃ g, wr.heap.size = g := ⟨_, rfl⟩
      rw [hgn] at BN ⊢
      clear hgn
      (with_reducible refine (C1.out _ RB.out).mono ?_)
      rintro e w2 ⟨rfl, b2⟩
      replace BP := Lib.hid (BP.out.here b2)
      replace HN := Lib.hid (HN.out.here b2)
      replace BN := Lib.hid (BN.out.here b2)
      replace BR := Lib.hid (BR.out.here b2)
      replace B1 := Lib.hid (thence B1.out b2 (Nat.le_refl _))
      clear b2 C1 RB
      obtain ⟨m0, m1, m2⟩ := BN.out.three
      have ltm := BN.out.lt
      have HN1 : Hid (Bx w2 g0 [.pointer (some ⟨gp, 0, none⟩)]) := HN.out.1
      go_wp2_with fail
      (with_reducible refine (CF.out _ HN1.out).mono ?_)
      rintro e w3 ⟨rfl, b3⟩
      replace BP := Lib.hid (BP.out.here b3)
      replace HN := Lib.hid (HN.out.here b3)
      replace BR := Lib.hid (BR.out.here b3)
      replace B1 := Lib.hid (thence B1.out b3 (Nat.le_refl _))
      clear b3 m0 m1 m2 ltm HN1 CF EN BN
      have cp := BP.out.cell k
      rw [HG.out] at cp
      have fp := BP.out.frozen k
      have ltp := BP.out.lt
      go_wp2_with fail
      go_roundw
      case rel => exact ⟨k + 1, by omega, by go_num, by rw [← HS.out]; exact BP.out.set k _, ⟨HN.out.1.other ⟨gp, k, none⟩ ng0 _, HN.out.2.other ⟨gp, k, none⟩ ng1 _⟩, BR.out.other ⟨gp, k, none⟩ ngr _, B1.out.setCell (p := ⟨gp, k, none⟩) hgp _⟩
      case measure => simp [intOf]; omega
    · obtain rfl : k = 11 := by omega
      clear HN hk hlt CT ng0 ng1 ngr HMB HR
      generalize LB.parse m = L at *
      obtain ⟨id, ev, mem, chunk, rows, log, me, lost, done, op⟩ := L
      have HI1 : Hid (id < 4294967296) := HI.out
      have CL1 : Hid (∀ w1, Hid (Bx w1 gp (lbVals m 11)) → Calls Try.prog 30 #[.pointer (some ⟨gp, 0, none⟩)] w1 fun e w' => e = .returned (.agg #[.int .u32 (id : Int), .int .u32 (ev : Int), .int .i64 mem, .int .i64 chunk, .int .i64 rows, .int .i64 log, .int .i64 me, .int .i64 lost, .int .i64 done, .bool op]) ∧ Below w1.heap.size w1 w') := fun w1 h => CL.out gp w1 h
      have hlt2 : ¬ ((11 : Nat) : Int) < 11 := by omega
      clear CL HI

      go_wp2_with fail
      (with_reducible refine (CL1.out _ BP).mono ?_)
      rintro e w2 ⟨rfl, b2⟩
      replace BR := Lib.hid (BR.out.here b2)
      replace RB := Lib.hid (RB.out.here b2)
      have ha2 : Below w2.heap.size w2 (w2.alloc (.cells #[.int .u32 (id : Int), .int .u32 (ev : Int), .int .i64 mem, .int .i64 chunk, .int .i64 rows, .int .i64 log, .int .i64 me, .int .i64 lost, .int .i64 done, .bool op] 43)) := (Below.refl _ _).alloc (Nat.le_refl _) _
      replace BR := Lib.hid (BR.out.here ha2)
      replace RB := Lib.hid (RB.out.here ha2)
      have BL : Hid (Bx (w2.alloc (.cells #[.int .u32 (id : Int), .int .u32 (ev : Int), .int .i64 mem, .int .i64 chunk, .int .i64 rows, .int .i64 log, .int .i64 me, .int .i64 lost, .int .i64 done, .bool op] 43)) w2.heap.size [.int .u32 (id : Int), .int .u32 (ev : Int), .int .i64 mem, .int .i64 chunk, .int .i64 rows, .int .i64 log, .int .i64 me, .int .i64 lost, .int .i64 done, .bool op]) := Bx.new w2 [.int .u32 (id : Int), .int .u32 (ev : Int), .int .i64 mem, .int .i64 chunk, .int .i64 rows, .int .i64 log, .int .i64 me, .int .i64 lost, .int .i64 done, .bool op] 43
      have B2 := Lib.hid (thence B1.out (thence b2 ha2 (Nat.le_refl _)) (Nat.le_refl _))
      clear ha2
      clear b2 B1
      obtain ⟨d0, d1, d2, d3, d4, d5, d6, d7, d8, d9⟩ := BL.out.ten
      have ltBL := BL.out.lt
      clear CL1 BP
      clear d0 d1 d2 d3 d4 d5 d6 d7 d8 d9 ltBL
      cases hm : Lab.may ⟨id, ev, mem, chunk, rows, log, me, lost, done, op⟩ with
      | false =>
        have CW := Lib.hid (fun w1 => lbWrite_no id ev mem chunk rows log me lost done op w1 HI1.out hm)
        have hg := GD.out
        rw [hm] at hg
        obtain ⟨e1, e2⟩ := NO.out (by rw [hg]; rfl)
        subst e1 e2
        clear NO YES GD hm hg HI1
        obtain ⟨d0, d1, d2, d3, d4, d5, d6, d7, d8, d9⟩ := BL.out.ten
        have ltBL := BL.out.lt
        go_wp2_with fail
        (with_reducible refine (CW.out _).mono ?_)
        rintro e w3 ⟨a1, k1, rfl, -, b3⟩
        clear d0 d1 d2 d3 d4 d5 d6 d7 d8 d9 ltBL
        replace BR := Lib.hid (BR.out.here b3)
        replace BL := Lib.hid (BL.out.here b3)
        replace RB := Lib.hid (RB.out.here b3)
        have B3 := Lib.hid (thence B2.out b3 (Nat.le_refl _))
        clear b3 B2
        obtain ⟨d0, d1, d2, d3, d4, d5, d6, d7, d8, d9⟩ := BL.out.ten
        have ltBL := BL.out.lt
        have lr := BR.out.lt
        obtain ⟨r0, r1, r2, r3, r4, r5, r6, r7, r8, r9⟩ := BR.out.ten
        have fr0 := BR.out.frozen 0
        have fr1 := BR.out.frozen 1
        have fr2 := BR.out.frozen 2
        have fr3 := BR.out.frozen 3
        have fr4 := BR.out.frozen 4
        have fr5 := BR.out.frozen 5
        have fr6 := BR.out.frozen 6
        have fr7 := BR.out.frozen 7
        have fr8 := BR.out.frozen 8
        have fr9 := BR.out.frozen 9
        go_wp2_with fail
        have hb := ((((((((((B3.out.setCell (p := ⟨w.heap.size, 0, none⟩) (Nat.le_refl _) (.int .u32 0)).setCell (p := ⟨w.heap.size, 1, none⟩) (Nat.le_refl _) (.int .u32 0)).setCell (p := ⟨w.heap.size, 2, none⟩) (Nat.le_refl _) (.int .i64 0)).setCell (p := ⟨w.heap.size, 3, none⟩) (Nat.le_refl _) (.int .i64 0)).setCell (p := ⟨w.heap.size, 4, none⟩) (Nat.le_refl _) (.int .i64 0)).setCell (p := ⟨w.heap.size, 5, none⟩) (Nat.le_refl _) (.int .i64 0)).setCell (p := ⟨w.heap.size, 6, none⟩) (Nat.le_refl _) (.int .i64 0)).setCell (p := ⟨w.heap.size, 7, none⟩) (Nat.le_refl _) (.int .i64 0)).setCell (p := ⟨w.heap.size, 8, none⟩) (Nat.le_refl _) (.int .i64 0)).setCell (p := ⟨w.heap.size, 9, none⟩) (Nat.le_refl _) (.bool false))
        exact bodyPost_ret (v := .tuple #[.agg #[.int .u32 0, .int .u32 0, .int .i64 0, .int .i64 0, .int .i64 0, .int .i64 0, .int .i64 0, .int .i64 0, .int .i64 0, .bool false], .int .i64 90]) (by simp [results, Try.results17, go_sem, lr, r0, r1, r2, r3, r4, r5, r6, r7, r8, r9]) rfl ⟨rfl, hb⟩
      | true =>
        have CW := Lib.hid (fun w1 => lbWrite_yes id ev mem chunk rows log me lost done op w1 HI1.out (LB.may_iff.1 hm))
        rw [hm] at GD
        have GE : Hid (gd = decide (l = Lab.block ⟨id, ev, mem, chunk, rows, log, me, lost, done, op⟩)) := by show _ = _; rw [GD.out]; rfl
        generalize Lab.block ⟨id, ev, mem, chunk, rows, log, me, lost, done, op⟩ = M at *
        clear GD HI1 hm
        obtain ⟨d0, d1, d2, d3, d4, d5, d6, d7, d8, d9⟩ := BL.out.ten
        have ltBL := BL.out.lt
        go_wp2_with fail
        (with_reducible refine (CW.out _).mono ?_)
        rintro e w3 ⟨a1, k1, rfl, hM, -, b3⟩
        clear d0 d1 d2 d3 d4 d5 d6 d7 d8 d9 ltBL
        replace BR := Lib.hid (BR.out.here b3)
        replace BL := Lib.hid (BL.out.here b3)
        replace RB := Lib.hid (RB.out.here b3)
        have RM := Lib.hid (hM)
        have B3 := Lib.hid (thence B2.out b3 (Nat.le_refl _))
        clear b3 B2 hM
        obtain ⟨d0, d1, d2, d3, d4, d5, d6, d7, d8, d9⟩ := BL.out.ten
        have ltBL := BL.out.lt
        have CQ := Lib.hid (fun w1 hr hq => lbEqual_any a n c l a1 128 k1 M w1 hr hq)
        rw [← GE.out] at CQ
        clear GE CW
        go_wp2_with fail
        (with_reducible refine (CQ.out _ RB.out RM.out).mono ?_)
        rintro e w4 ⟨rfl, b4⟩
        clear d0 d1 d2 d3 d4 d5 d6 d7 d8 d9 ltBL
        replace BR := Lib.hid (BR.out.here b4)
        replace BL := Lib.hid (BL.out.here b4)
        replace RB := Lib.hid (RB.out.here b4)
        replace RM := Lib.hid (RM.out.here b4)
        have B4 := Lib.hid (thence B3.out b4 (Nat.le_refl _))
        clear b4 B3
        obtain ⟨d0, d1, d2, d3, d4, d5, d6, d7, d8, d9⟩ := BL.out.ten
        have ltBL := BL.out.lt
        clear CQ RB RM
        have lr := BR.out.lt
        obtain ⟨r0, r1, r2, r3, r4, r5, r6, r7, r8, r9⟩ := BR.out.ten
        have fr0 := BR.out.frozen 0
        have fr1 := BR.out.frozen 1
        have fr2 := BR.out.frozen 2
        have fr3 := BR.out.frozen 3
        have fr4 := BR.out.frozen 4
        have fr5 := BR.out.frozen 5
        have fr6 := BR.out.frozen 6
        have fr7 := BR.out.frozen 7
        have fr8 := BR.out.frozen 8
        have fr9 := BR.out.frozen 9
        cases gd with
        | false =>
          obtain ⟨e1, e2⟩ := NO.out rfl
          subst e1 e2
          clear NO YES
          go_wp2_with fail
          have hb := ((((((((((B4.out.setCell (p := ⟨w.heap.size, 0, none⟩) (Nat.le_refl _) (.int .u32 0)).setCell (p := ⟨w.heap.size, 1, none⟩) (Nat.le_refl _) (.int .u32 0)).setCell (p := ⟨w.heap.size, 2, none⟩) (Nat.le_refl _) (.int .i64 0)).setCell (p := ⟨w.heap.size, 3, none⟩) (Nat.le_refl _) (.int .i64 0)).setCell (p := ⟨w.heap.size, 4, none⟩) (Nat.le_refl _) (.int .i64 0)).setCell (p := ⟨w.heap.size, 5, none⟩) (Nat.le_refl _) (.int .i64 0)).setCell (p := ⟨w.heap.size, 6, none⟩) (Nat.le_refl _) (.int .i64 0)).setCell (p := ⟨w.heap.size, 7, none⟩) (Nat.le_refl _) (.int .i64 0)).setCell (p := ⟨w.heap.size, 8, none⟩) (Nat.le_refl _) (.int .i64 0)).setCell (p := ⟨w.heap.size, 9, none⟩) (Nat.le_refl _) (.bool false))
          exact bodyPost_ret (v := .tuple #[.agg #[.int .u32 0, .int .u32 0, .int .i64 0, .int .i64 0, .int .i64 0, .int .i64 0, .int .i64 0, .int .i64 0, .int .i64 0, .bool false], .int .i64 90]) (by simp [results, Try.results17, go_sem, lr, r0, r1, r2, r3, r4, r5, r6, r7, r8, r9]) rfl ⟨rfl, hb⟩
        | true =>
          obtain ⟨e1, e2⟩ := YES.out rfl
          have e3 : rv = .agg #[.int .u32 (id : Int), .int .u32 (ev : Int), .int .i64 mem, .int .i64 chunk, .int .i64 rows, .int .i64 log, .int .i64 me, .int .i64 lost, .int .i64 done, .bool op] := e1
          clear e1
          subst e3 e2
          clear NO YES
          go_wp2_with fail
          have hb := ((((((((((B4.out.setCell (p := ⟨w.heap.size, 0, none⟩) (Nat.le_refl _) (.int .u32 (id : Int))).setCell (p := ⟨w.heap.size, 1, none⟩) (Nat.le_refl _) (.int .u32 (ev : Int))).setCell (p := ⟨w.heap.size, 2, none⟩) (Nat.le_refl _) (.int .i64 mem)).setCell (p := ⟨w.heap.size, 3, none⟩) (Nat.le_refl _) (.int .i64 chunk)).setCell (p := ⟨w.heap.size, 4, none⟩) (Nat.le_refl _) (.int .i64 rows)).setCell (p := ⟨w.heap.size, 5, none⟩) (Nat.le_refl _) (.int .i64 log)).setCell (p := ⟨w.heap.size, 6, none⟩) (Nat.le_refl _) (.int .i64 me)).setCell (p := ⟨w.heap.size, 7, none⟩) (Nat.le_refl _) (.int .i64 lost)).setCell (p := ⟨w.heap.size, 8, none⟩) (Nat.le_refl _) (.int .i64 done)).setCell (p := ⟨w.heap.size, 9, none⟩) (Nat.le_refl _) (.bool op))
          exact bodyPost_ret (v := .tuple #[.agg #[.int .u32 (id : Int), .int .u32 (ev : Int), .int .i64 mem, .int .i64 chunk, .int .i64 rows, .int .i64 log, .int .i64 me, .int .i64 lost, .int .i64 done, .bool op], .int .i64 0]) (by simp [results, Try.results17, go_sem, lr, r0, r1, r2, r3, r4, r5, r6, r7, r8, r9, d0, d1, d2, d3, d4, d5, d6, d7, d8, d9, ltBL]) rfl ⟨rfl, hb⟩

theorem lbRead_any (a : Option Addr) (n c : Nat) (l : List Nat) (w : World) (hr : Rd w.heap.size w a n c l) :
    Calls Try.prog 17 #[.slice a n c] w fun e w' => e = .returned (.tuple #[labV (LB.rd l).1, .int .i64 (((LB.rd l).2 : Nat) : Int)]) ∧ Below w.heap.size w w' := by
  by_cases h : l.length = 0 ∨ l.length = 128
  · exact lbRead_go a n c l w hr h
  · have h0 : l.length ≠ 0 := fun e => h (.inl e)
    have h1 : l.length ≠ 128 := fun e => h (.inr e)
    rw [LB.rd_text h0 h1]
    exact lbRead_text a n c l w hr h0 h1

/-- What the program's own calls answer. -/
theorem labelIs : LabelIs where
  check := fun id ev mem chunk rows log me lost done op w hi => lbCheck_any id ev mem chunk rows log me lost done op w
  yes := fun id ev mem chunk rows log me lost done op w hi h => lbWrite_yes id ev mem chunk rows log me lost done op w hi h
  no := fun id ev mem chunk rows log me lost done op w hi h => lbWrite_no id ev mem chunk rows log me lost done op w hi h
  read := fun a n c l w hr => lbRead_any a n c l w hr
end Go.Proofs.Ytjdcnajppjamgaa.PW
