/-
  Contracts of the document's own answers of layer 10.
-/
import Derived.Test.YtjdcnajppjamgaaSealRefs
import Derived.Test.YtjdcnajppjamgaaSuperMath
import Derived.Test.YtjdcnajppjamgaaLabelOwn
import Derived.Test.YtjdcnajppjamgaaHoist
namespace Go.Proofs.Ytjdcnajppjamgaa.PW
open Go.RowKit
open SB (Sup)
set_option linter.unusedVariables false
set_option linter.unusedSimpArgs false
set_option maxRecDepth 100000

/-- A super, as it lies in memory. -/
def supC (x : Sup) : List Value := [.int .u32 (x.id : Int), .int .u32 (x.age : Int), .int .u32 (x.seq : Int), .int .i64 x.tail]
def supV (x : Sup) : Value := .agg (supC x).toArray
/-- A struct of four fields: what its cells hold, and that they may be written. -/
theorem Bx.four' {w : World} {g : Nat} {a b c d : Value} (h : Bx w g [a, b, c, d]) : w.cell? ⟨g, 0, none⟩ = some a ∧ w.cell? ⟨g, 1, none⟩ = some b ∧ w.cell? ⟨g, 2, none⟩ = some c ∧ w.cell? ⟨g, 3, none⟩ = some d := ⟨h.cell 0, h.cell 1, h.cell 2, h.cell 3⟩
theorem Bx.froz4 {w : World} {g : Nat} {cs : List Value} (h : Bx w g cs) : w.frozen? ⟨g, 0, none⟩ = false ∧ w.frozen? ⟨g, 1, none⟩ = false ∧ w.frozen? ⟨g, 2, none⟩ = false ∧ w.frozen? ⟨g, 3, none⟩ = false := ⟨h.frozen 0, h.frozen 1, h.frozen 2, h.frozen 3⟩

set_option maxHeartbeats 1000000 in
theorem refSMay_any (id age seq : Nat) (tail : Int) (w : World) :
    Calls Try.prog 24 #[.agg #[.int .u32 (id : Int), .int .u32 (age : Int), .int .u32 (seq : Int), .int .i64 tail]] w fun e w' => e = .returned (.bool (Sup.may ⟨id, age, seq, tail⟩)) ∧ Below w.heap.size w w' := by
  have B0 : Hid (Below w.heap.size w (w.alloc (.cells #[.int .u32 (id : Int), .int .u32 (age : Int), .int .u32 (seq : Int), .int .i64 tail] 28))) := (Below.refl _ _).alloc (Nat.le_refl _) _
  by_cases g0 : 1 ≤ age
  case neg =>
    have f0 : ¬ (1 : Int) ≤ (age : Int) := by omega
    rw [show Sup.may ⟨id, age, seq, tail⟩ = false from SB.may_not.2 (fun h => g0 h.1)]
    clear g0
    go_enter Try.func24, Try.ntmps24
    go_wp2_with fail
    go_ret
    exact ⟨rfl, B0.out⟩
  have f0 : (1 : Int) ≤ (age : Int) := by omega
  by_cases g1 : age ≤ 2147483648
  case neg =>
    have f1 : ¬ (age : Int) ≤ 2147483648 := by omega
    rw [show Sup.may ⟨id, age, seq, tail⟩ = false from SB.may_not.2 (fun h => g1 h.2.1)]
    clear g0 g1
    go_enter Try.func24, Try.ntmps24
    go_wp2_with fail
    go_ret
    exact ⟨rfl, B0.out⟩
  have f1 : (age : Int) ≤ 2147483648 := by omega
  by_cases g2 : 1 ≤ seq
  case neg =>
    have f2 : ¬ (1 : Int) ≤ (seq : Int) := by omega
    rw [show Sup.may ⟨id, age, seq, tail⟩ = false from SB.may_not.2 (fun h => g2 h.2.2.1)]
    clear g0 g1 g2
    go_enter Try.func24, Try.ntmps24
    go_wp2_with fail
    go_ret
    exact ⟨rfl, B0.out⟩
  have f2 : (1 : Int) ≤ (seq : Int) := by omega
  by_cases g3 : seq ≤ 2147483648
  case neg =>
    have f3 : ¬ (seq : Int) ≤ 2147483648 := by omega
    rw [show Sup.may ⟨id, age, seq, tail⟩ = false from SB.may_not.2 (fun h => g3 h.2.2.2.1)]
    clear g0 g1 g2 g3
    go_enter Try.func24, Try.ntmps24
    go_wp2_with fail
    go_ret
    exact ⟨rfl, B0.out⟩
  have f3 : (seq : Int) ≤ 2147483648 := by omega
  by_cases g4 : 0 ≤ tail
  case neg =>
    have f4 : ¬ (0 : Int) ≤ tail := by omega
    rw [show Sup.may ⟨id, age, seq, tail⟩ = false from SB.may_not.2 (fun h => g4 h.2.2.2.2.1)]
    clear g0 g1 g2 g3 g4
    go_enter Try.func24, Try.ntmps24
    go_wp2_with fail
    go_ret
    exact ⟨rfl, B0.out⟩
  have f4 : (0 : Int) ≤ tail := by omega
  by_cases g5 : tail < 255
  case neg =>
    have f5 : ¬ tail < 255 := by omega
    rw [show Sup.may ⟨id, age, seq, tail⟩ = false from SB.may_not.2 (fun h => g5 h.2.2.2.2.2)]
    clear g0 g1 g2 g3 g4 g5
    go_enter Try.func24, Try.ntmps24
    go_wp2_with fail
    go_ret
    exact ⟨rfl, B0.out⟩
  have f5 : tail < 255 := by omega
  rw [show Sup.may ⟨id, age, seq, tail⟩ = true from SB.may_iff.2 ⟨g0, g1, g2, g3, g4, g5⟩]
  clear g0 g1 g2 g3 g4 g5
  go_enter Try.func24, Try.ntmps24
  go_wp2_with fail
  go_ret
  exact ⟨rfl, B0.out⟩

set_option maxHeartbeats 1000000 in
theorem refSCheck_any (id age seq : Nat) (tail : Int) (w : World) :
    Calls Try.prog 16 #[.agg #[.int .u32 (id : Int), .int .u32 (age : Int), .int .u32 (seq : Int), .int .i64 tail]] w fun e w' => e = .returned (.int .i64 ((Sup.code ⟨id, age, seq, tail⟩ : Nat) : Int)) ∧ Below w.heap.size w w' := by
  have CM := Lib.hid (refSMay_any id age seq tail)
  have B0 : Hid (Below w.heap.size w (w.alloc (.cells #[.int .u32 (id : Int), .int .u32 (age : Int), .int .u32 (seq : Int), .int .i64 tail] 28))) := (Below.refl _ _).alloc (Nat.le_refl _) _
  cases hm : Sup.may ⟨id, age, seq, tail⟩ with
  | true =>
    rw [SB.code_yes hm]
    rw [hm] at CM
    clear hm
    go_enter Try.func16, Try.ntmps16
    go_wp2_with fail
    (with_reducible refine (CM.out _).mono ?_)
    rintro e w1 ⟨rfl, b1⟩
    have B1 := Lib.hid (thence B0.out b1 (Nat.le_refl _))
    clear b1
    go_wp2_with fail
    go_ret
    exact ⟨rfl, B1.out⟩
  | false =>
    rw [SB.code_no hm]
    rw [hm] at CM
    clear hm
    go_enter Try.func16, Try.ntmps16
    go_wp2_with fail
    (with_reducible refine (CM.out _).mono ?_)
    rintro e w1 ⟨rfl, b1⟩
    have B1 := Lib.hid (thence B0.out b1 (Nat.le_refl _))
    clear b1
    go_wp2_with fail
    go_ret
    exact ⟨rfl, B1.out⟩

set_option maxHeartbeats 2000000 in
theorem refSBlock_any (id age seq : Nat) (tail : Int) (w : World) (hid : id < 4294967296) (h : Sup.mayP ⟨id, age, seq, tail⟩) :
    Calls Try.prog 25 #[.agg #[.int .u32 (id : Int), .int .u32 (age : Int), .int .u32 (seq : Int), .int .i64 tail]] w fun e w' => ∃ g, e = .returned (.slice (some ⟨g, 0, none⟩) 128 128) ∧ w.heap.size ≤ g ∧ Blk w' g (Sup.block ⟨id, age, seq, tail⟩) ∧ Below w.heap.size w w' := by
  obtain ⟨p1, p2, p3, p4, p5, p6⟩ := h
  dsimp only at p1 p2 p3 p4 p5 p6
  obtain ⟨tail, rfl⟩ := Int.eq_ofNat_of_zero_le p5
  have e1 : IntKind.u8.wrap (tail : Int) = (tail : Int) := by rw [IntKind.wrap_u8']; omega
  have CF := Lib.hid refFour_any
  have HI := Lib.hid hid
  have HA : Hid (age < 4294967296) := by show _ < _; omega
  have HS : Hid (seq < 4294967296) := by show _ < _; omega
  have S1 : Hid (Bytes [tail]) := by intro x hx; simp at hx; omega
  have HD : Hid (Sup.block ⟨id, age, seq, (tail : Int)⟩ = SL.sld ([83] ++ PM.own4 id ++ PM.own4 age ++ PM.own4 seq ++ [tail])) := rfl
  rw [HD.out]
  clear HD hid p1 p2 p3 p4 p5 p6
  have B0 : Hid (Below w.heap.size w (w.alloc (.cells #[.int .u32 (id : Int), .int .u32 (age : Int), .int .u32 (seq : Int), .int .i64 (tail : Int)] 28))) := (Below.refl _ _).alloc (Nat.le_refl _) _
  have BX := Lib.hid (Bx.new w [.int .u32 (id : Int), .int .u32 (age : Int), .int .u32 (seq : Int), .int .i64 (tail : Int)] 28)
  go_enter Try.func25, Try.ntmps25
  go_wp2_with fail
  replace BX : Hid (Bx (w.alloc (.cells #[.int .u32 (id : Int), .int .u32 (age : Int), .int .u32 (seq : Int), .int .i64 (tail : Int)] 28)) w.heap.size [.int .u32 (id : Int), .int .u32 (age : Int), .int .u32 (seq : Int), .int .i64 (tail : Int)]) := BX
  have hsz : Hid ((w.alloc (.cells #[.int .u32 (id : Int), .int .u32 (age : Int), .int .u32 (seq : Int), .int .i64 (tail : Int)] 28)).heap.size = w.heap.size + 1) := by show _ = _; simp
  generalize w.alloc (.cells #[.int .u32 (id : Int), .int .u32 (age : Int), .int .u32 (seq : Int), .int .i64 (tail : Int)] 28) = W0 at *
  have HZ : Hid (w.heap.size + 1 ≤ W0.heap.size) := Nat.le_of_eq hsz.out.symm
  have O1 : Hid (Own (W0.alloc (.cells #[.int .u8 83] 5)) (w.heap.size + 1) (.slice (some ⟨w.heap.size + 1, 0, none⟩) 1 1) [83]) := by
    have := own_lit W0 W0.heap.size [83] 1 rfl (by decide) (Nat.le_refl _) #[.int .u8 83] rfl
    rw [hsz.out] at this
    exact this
  have B1 : Hid (Below (w.heap.size + 1) W0 (W0.alloc (.cells #[.int .u8 83] 5))) := (Below.refl _ _).alloc HZ.out _
  generalize W0.alloc (.cells #[.int .u8 83] 5) = W1 at *
  (with_reducible refine (CF.out id _ HI.out).mono ?_)
  rintro e w2 ⟨fa2, rfl, fr, b2⟩
  obtain ⟨x3, k3, w3, r3, o3, d3, b3⟩ := append_own (O1.out.here b2) (by intro x hx; simp at hx; omega) fr (by simp [PM.own4]) (Nat.le_trans HZ.out (Nat.le_trans B1.out.size b2.size)) 5 (by simp [PM.own4])
  have B3 := Lib.hid ((thence B1.out b2 HZ.out).trans b3)
  have R3 := Lib.hid r3
  have O3 := Lib.hid o3
  have D3 := Lib.hid d3
  clear b2 r3 o3 d3 b3 fr
  obtain ⟨c0, c1, c2, c3⟩ := (BX.out.below B3.out (Nat.lt_succ_self _)).four'
  have ltX := (BX.out.below B3.out (Nat.lt_succ_self _)).lt
  go_wp2_with (at_builtin; refine wpList_append_run rfl _ _ _ _ rfl R3.out ?_; clear R3)
  clear c0 c1 c2 c3 ltX
  (with_reducible refine (CF.out age _ HA.out).mono ?_)
  rintro e w4 ⟨fa4, rfl, fr, b2⟩
  obtain ⟨x5, k5, w5, r3, o3, d3, b3⟩ := append_own (O3.out.here b2) D3.out.byt fr (by simp [PM.own4]) (Nat.le_trans HZ.out (Nat.le_trans B3.out.size b2.size)) 9 (by simp [PM.own4])
  have B5 := Lib.hid ((thence B3.out b2 HZ.out).trans b3)
  have R5 := Lib.hid r3
  have O5 := Lib.hid o3
  have D5 := Lib.hid d3
  clear b2 r3 o3 d3 b3 fr
  obtain ⟨c0, c1, c2, c3⟩ := (BX.out.below B5.out (Nat.lt_succ_self _)).four'
  have ltX := (BX.out.below B5.out (Nat.lt_succ_self _)).lt
  go_wp2_with (at_builtin; refine wpList_append_run rfl _ _ _ _ rfl R5.out ?_; clear R5)
  clear c0 c1 c2 c3 ltX
  (with_reducible refine (CF.out seq _ HS.out).mono ?_)
  rintro e w6 ⟨fa6, rfl, fr, b2⟩
  obtain ⟨x7, k7, w7, r3, o3, d3, b3⟩ := append_own (O5.out.here b2) D5.out.byt fr (by simp [PM.own4]) (Nat.le_trans HZ.out (Nat.le_trans B5.out.size b2.size)) 13 (by simp [PM.own4])
  have B7 := Lib.hid ((thence B5.out b2 HZ.out).trans b3)
  have R7 := Lib.hid r3
  have O7 := Lib.hid o3
  have D7 := Lib.hid d3
  clear b2 r3 o3 d3 b3 fr
  obtain ⟨c0, c1, c2, c3⟩ := (BX.out.below B7.out (Nat.lt_succ_self _)).four'
  have ltX := (BX.out.below B7.out (Nat.lt_succ_self _)).lt
  have hl : Below w7.heap.size w7 (w7.alloc (.cells #[.int .u8 (tail : Int)] 5)) := (Below.refl _ _).alloc (Nat.le_refl _) _
  obtain ⟨x9, k9, w9, r9, o9, d9, b9⟩ := append_own (O7.out.here hl) D7.out.byt (rd_lit w7 [tail] #[.int .u8 (tail : Int)] 1 1 (0, 0) rfl rfl (by simp) S1.out (by show 1 ≤ maxLen; unfold maxLen; decide)) (by simp [PM.own4]) (Nat.le_trans HZ.out (Nat.le_trans B7.out.size hl.size)) 14 (by simp [PM.own4])
  have B9 := Lib.hid ((B7.out.trans (hl.mono (Nat.le_trans HZ.out B7.out.size))).trans b9)
  have R9 := Lib.hid r9
  have D9 := Lib.hid d9
  clear r9 o9 d9 b9 hl
  go_wp2_with (first | (at_builtin; refine wpList_append_run rfl _ _ _ _ rfl R7.out ?_; clear R7) | (at_builtin; refine wpList_append_run rfl _ _ _ _ rfl R9.out ?_; clear R9))
  clear c0 c1 c2 c3 ltX
  have CS := Lib.hid (refSealed_any x9 14 k9 _ w9 D9.out (by simp [PM.own4]))
  (with_reducible refine CS.out.mono ?_)
  rintro e w10 ⟨g10, rfl, hg10, hblk, b10⟩
  go_wp2_with fail
  go_ret
  exact ⟨g10, rfl, Nat.le_trans (Nat.le_trans (Nat.le_succ _) (Nat.le_trans HZ.out B9.out.size)) hg10, hblk, B0.out.trans ((thence B9.out b10 HZ.out).mono (Nat.le_succ _))⟩

set_option maxHeartbeats 1000000 in
theorem refSWrite_any (id age seq : Nat) (tail : Int) (w : World) (hid : id < 4294967296) :
    Calls Try.prog 14 #[.agg #[.int .u32 (id : Int), .int .u32 (age : Int), .int .u32 (seq : Int), .int .i64 tail]] w fun e w' => ∃ a n c, e = .returned (.tuple #[.slice a n c, .int .i64 ((Sup.code ⟨id, age, seq, tail⟩ : Nat) : Int)]) ∧ Rd w'.heap.size w' a n c (Sup.text ⟨id, age, seq, tail⟩) ∧ Below w.heap.size w w' := by
  have CM := Lib.hid (refSMay_any id age seq tail)
  have B0 : Hid (Below w.heap.size w (w.alloc (.cells #[.int .u32 (id : Int), .int .u32 (age : Int), .int .u32 (seq : Int), .int .i64 tail] 28))) := (Below.refl _ _).alloc (Nat.le_refl _) _
  have BX := Lib.hid (Bx.new w [.int .u32 (id : Int), .int .u32 (age : Int), .int .u32 (seq : Int), .int .i64 tail] 28)
  cases hm : Sup.may ⟨id, age, seq, tail⟩ with
  | true =>
    have CB := Lib.hid (fun w1 => refSBlock_any id age seq tail w1 hid (SB.may_iff.1 hm))
    have HB : Hid (Bytes (Sup.block ⟨id, age, seq, tail⟩)) := SB.block_bytes (SB.may_iff.1 hm) hid
    have HL : Hid ((Sup.block ⟨id, age, seq, tail⟩).length = 128) := SB.block_length _
    rw [SB.code_yes hm, SB.text_yes hm]
    rw [hm] at CM
    clear hm hid
    generalize Sup.block ⟨id, age, seq, tail⟩ = m at *
    go_enter Try.func14, Try.ntmps14
    go_wp2_with fail
    (with_reducible refine (CM.out _).mono ?_)
    rintro e w1 ⟨rfl, b1⟩
    have B1 := Lib.hid (thence B0.out b1 (Nat.le_refl _))
    replace BX := Lib.hid (BX.out.here b1)
    obtain ⟨c0, c1, c2, c3⟩ := BX.out.four'
    clear b1
    go_wp2_with fail
    (with_reducible refine (CB.out _).mono ?_)
    rintro e w2 ⟨g, rfl, hg, hblk, b2⟩
    go_wp2_with fail
    go_ret2
    exact ⟨_, _, _, rfl, hblk.rd HL.out HB.out, thence B1.out b2 (Nat.le_refl _)⟩
  | false =>
    rw [SB.code_no hm, SB.text_no hm]
    rw [hm] at CM
    clear hm hid
    go_enter Try.func14, Try.ntmps14
    go_wp2_with fail
    (with_reducible refine (CM.out _).mono ?_)
    rintro e w1 ⟨rfl, b1⟩
    have B1 := Lib.hid (thence B0.out b1 (Nat.le_refl _))
    clear b1
    go_wp2_with fail
    go_ret2
    exact ⟨_, _, _, rfl, rd_nil _ _, B1.out⟩
end Go.Proofs.Ytjdcnajppjamgaa.PW
