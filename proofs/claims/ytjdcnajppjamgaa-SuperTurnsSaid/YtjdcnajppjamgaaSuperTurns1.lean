/-
  Layer 10's laws, given what the program's calls answer.
-/
import Derived.Test.YtjdcnajppjamgaaSuperLaws
import Derived.Test.YtjdcnajppjamgaaOpenArr
namespace Go.Proofs.Ytjdcnajppjamgaa.PW
open Go.RowKit
open SB (Sup)
set_option linter.unusedVariables false
set_option linter.unusedSimpArgs false
set_option maxRecDepth 100000

set_option maxHeartbeats 4000000 in
theorem superTurns_walk (I : SuperIs) (id age seq : Nat) (tail : Int) (at_ : Int) (x y z u : Nat) (w : World) (hid : id < 4294967296) (hx : x < 256) (hy : y < 256) (hz : z < 256) (hu : u < 256) :
    Calls Try.prog 6 #[.agg #[.int .u32 (id : Int), .int .u32 (age : Int), .int .u32 (seq : Int), .int .i64 tail], .int .i64 at_, .agg #[.int .u8 (x : Int), .int .u8 (y : Int), .int .u8 (z : Int), .int .u8 (u : Int)]] w fun e w' => e = .returned (.bool true) ∧ Below w.heap.size w w' := by
  have CA : Hid (∀ w1, Calls Try.prog 12 #[] w1 fun e w' => e = .returned (.bool true) ∧ Below w1.heap.size w1 w') := alive10_any I
  have ha1 : Below w.heap.size w (w.alloc (.cells #[.int .u32 (id : Int), .int .u32 (age : Int), .int .u32 (seq : Int), .int .i64 tail] 28)) := (Below.refl _ _).alloc (Nat.le_refl _) _
  have ha2 : Below (w.alloc (.cells #[.int .u32 (id : Int), .int .u32 (age : Int), .int .u32 (seq : Int), .int .i64 tail] 28)).heap.size (w.alloc (.cells #[.int .u32 (id : Int), .int .u32 (age : Int), .int .u32 (seq : Int), .int .i64 tail] 28)) ((w.alloc (.cells #[.int .u32 (id : Int), .int .u32 (age : Int), .int .u32 (seq : Int), .int .i64 tail] 28)).alloc (.cells #[.int .u8 (x : Int), .int .u8 (y : Int), .int .u8 (z : Int), .int .u8 (u : Int)] 40)) := (Below.refl _ _).alloc (Nat.le_refl _) _
  have B0 : Hid (Below w.heap.size w ((w.alloc (.cells #[.int .u32 (id : Int), .int .u32 (age : Int), .int .u32 (seq : Int), .int .i64 tail] 28)).alloc (.cells #[.int .u8 (x : Int), .int .u8 (y : Int), .int .u8 (z : Int), .int .u8 (u : Int)] 40))) := thence ha1 ha2 (Nat.le_refl _)
  have BX : Hid (Bx ((w.alloc (.cells #[.int .u32 (id : Int), .int .u32 (age : Int), .int .u32 (seq : Int), .int .i64 tail] 28)).alloc (.cells #[.int .u8 (x : Int), .int .u8 (y : Int), .int .u8 (z : Int), .int .u8 (u : Int)] 40)) w.heap.size [.int .u32 (id : Int), .int .u32 (age : Int), .int .u32 (seq : Int), .int .i64 tail]) := (Bx.new w [.int .u32 (id : Int), .int .u32 (age : Int), .int .u32 (seq : Int), .int .i64 tail] 28).here ha2
  have BY : Hid (Bx ((w.alloc (.cells #[.int .u32 (id : Int), .int .u32 (age : Int), .int .u32 (seq : Int), .int .i64 tail] 28)).alloc (.cells #[.int .u8 (x : Int), .int .u8 (y : Int), .int .u8 (z : Int), .int .u8 (u : Int)] 40)) (w.heap.size + 1) ([x, y, z, u].map bv)) := by
    have h := Bx.new (w.alloc (.cells #[.int .u32 (id : Int), .int .u32 (age : Int), .int .u32 (seq : Int), .int .i64 tail] 28)) [.int .u8 (x : Int), .int .u8 (y : Int), .int .u8 (z : Int), .int .u8 (u : Int)] 40
    have e : (w.alloc (.cells #[.int .u32 (id : Int), .int .u32 (age : Int), .int .u32 (seq : Int), .int .i64 tail] 28)).heap.size = w.heap.size + 1 := by simp
    rw [e] at h
    exact h
  clear ha1 ha2
  have HI := Lib.hid hid
  cases hm : Sup.may ⟨id, age, seq, tail⟩ with
  | false =>
    have CW := Lib.hid (fun w1 => I.no id age seq tail w1 HI.out hm)
    clear hm hx hy hz hu
    go_enter Try.func6, Try.ntmps6
    go_wp2_with fail
    generalize (w.alloc (.cells #[.int .u32 (id : Int), .int .u32 (age : Int), .int .u32 (seq : Int), .int .i64 tail] 28)).alloc (.cells #[.int .u8 (x : Int), .int .u8 (y : Int), .int .u8 (z : Int), .int .u8 (u : Int)] 40) = W0 at *
    obtain ⟨c0, c1, c2, c3⟩ := BX.out.four'
    have ltBX := BX.out.lt
    (with_reducible refine (CA.out _).mono ?_)
    rintro e w1 ⟨rfl, b1⟩
    clear c0 c1 c2 c3 ltBX
    replace BX := Lib.hid (BX.out.here b1)
    replace BY := Lib.hid (BY.out.here b1)
    have B1 := Lib.hid (thence B0.out b1 (Nat.le_refl _))
    have HLR : Hid (w.heap.size + 1 < w1.heap.size) := BY.out.lt
    clear b1 B0
    obtain ⟨c0, c1, c2, c3⟩ := BX.out.four'
    have ltBX := BX.out.lt
    go_wp2_with fail
    (with_reducible refine (CW.out _).mono ?_)
    rintro e w2 ⟨a1, k1, rfl, -, b2⟩
    clear c0 c1 c2 c3 ltBX
    replace BX := Lib.hid (BX.out.here b2)
    replace BY := Lib.hid (BY.out.here b2)
    have B2 := Lib.hid (thence B1.out b2 (Nat.le_refl _))
    clear b2 B1
    obtain ⟨c0, c1, c2, c3⟩ := BX.out.four'
    have ltBX := BX.out.lt
    have q0 : w2.cell? ⟨w.heap.size + 1, 0, none⟩ = some (.int .u8 (x : Int)) := BY.out.cell 0
    have q1 : w2.cell? ⟨w.heap.size + 1, 1, none⟩ = some (.int .u8 (y : Int)) := BY.out.cell 1
    have q2 : w2.cell? ⟨w.heap.size + 1, 2, none⟩ = some (.int .u8 (z : Int)) := BY.out.cell 2
    have q3 : w2.cell? ⟨w.heap.size + 1, 3, none⟩ = some (.int .u8 (u : Int)) := BY.out.cell 3
    go_wp2_with fail
    go_ret
    exact ⟨rfl, B2.out⟩
  | true =>
    have CW := Lib.hid (fun w1 => I.yes id age seq tail w1 HI.out (SB.may_iff.1 hm))
    have HS := Lib.hid (SB.block_sealed (SB.may_iff.1 hm) hid)
    generalize Sup.block ⟨id, age, seq, tail⟩ = K at *
    clear hm hid
    by_cases h0 : x = 0 ∧ y = 0 ∧ z = 0 ∧ u = 0
    · have hae : ∀ w, (Op.equalIn 10000 40 (.agg #[.int .u8 (x : Int), .int .u8 (y : Int), .int .u8 (z : Int), .int .u8 (u : Int)]) (.agg #[.int .u8 0, .int .u8 0, .int .u8 0, .int .u8 0])).run Try.prog w = .ok true w := fun w => by
        rw [arr_eq]
        obtain ⟨rfl, rfl, rfl, rfl⟩ := h0
        rfl
      clear h0
      clear hx hy hz hu
      go_enter Try.func6, Try.ntmps6
      go_wp2_with fail
      generalize (w.alloc (.cells #[.int .u32 (id : Int), .int .u32 (age : Int), .int .u32 (seq : Int), .int .i64 tail] 28)).alloc (.cells #[.int .u8 (x : Int), .int .u8 (y : Int), .int .u8 (z : Int), .int .u8 (u : Int)] 40) = W0 at *
      obtain ⟨c0, c1, c2, c3⟩ := BX.out.four'
      have ltBX := BX.out.lt
      (with_reducible refine (CA.out _).mono ?_)
      rintro e w1 ⟨rfl, b1⟩
      clear c0 c1 c2 c3 ltBX
      replace BX := Lib.hid (BX.out.here b1)
      replace BY := Lib.hid (BY.out.here b1)
      have B1 := Lib.hid (thence B0.out b1 (Nat.le_refl _))
      have HLR : Hid (w.heap.size + 1 < w1.heap.size) := BY.out.lt
      clear b1 B0
      obtain ⟨c0, c1, c2, c3⟩ := BX.out.four'
      have ltBX := BX.out.lt
      go_wp2_with fail
      (with_reducible refine (CW.out _).mono ?_)
      rintro e w2 ⟨a1, k1, rfl, -, -, b2⟩
      clear c0 c1 c2 c3 ltBX
      replace BX := Lib.hid (BX.out.here b2)
      replace BY := Lib.hid (BY.out.here b2)
      have B2 := Lib.hid (thence B1.out b2 (Nat.le_refl _))
      clear b2 B1
      obtain ⟨c0, c1, c2, c3⟩ := BX.out.four'
      have ltBX := BX.out.lt
      have q0 : w2.cell? ⟨w.heap.size + 1, 0, none⟩ = some (.int .u8 (x : Int)) := BY.out.cell 0
      have q1 : w2.cell? ⟨w.heap.size + 1, 1, none⟩ = some (.int .u8 (y : Int)) := BY.out.cell 1
      have q2 : w2.cell? ⟨w.heap.size + 1, 2, none⟩ = some (.int .u8 (z : Int)) := BY.out.cell 2
      have q3 : w2.cell? ⟨w.heap.size + 1, 3, none⟩ = some (.int .u8 (u : Int)) := BY.out.cell 3
      go_wp2_with fail
      go_ret
      exact ⟨rfl, B2.out⟩
    have hae : ∀ w, (Op.equalIn 10000 40 (.agg #[.int .u8 (x : Int), .int .u8 (y : Int), .int .u8 (z : Int), .int .u8 (u : Int)]) (.agg #[.int .u8 0, .int .u8 0, .int .u8 0, .int .u8 0])).run Try.prog w = .ok false w := fun w => by
      rw [arr_eq]
      congr 1
      rw [← Bool.not_eq_true]
      simp
      omega
    by_cases p1 : at_ < 0
    · clear h0
      have i0 : (at_ != 124) = true := by simp; omega
      have i0' : (at_ == 124) = false := by simp; omega
      clear hx hy hz hu
      go_enter Try.func6, Try.ntmps6
      go_wp2_with fail
      generalize (w.alloc (.cells #[.int .u32 (id : Int), .int .u32 (age : Int), .int .u32 (seq : Int), .int .i64 tail] 28)).alloc (.cells #[.int .u8 (x : Int), .int .u8 (y : Int), .int .u8 (z : Int), .int .u8 (u : Int)] 40) = W0 at *
      obtain ⟨c0, c1, c2, c3⟩ := BX.out.four'
      have ltBX := BX.out.lt
      (with_reducible refine (CA.out _).mono ?_)
      rintro e w1 ⟨rfl, b1⟩
      clear c0 c1 c2 c3 ltBX
      replace BX := Lib.hid (BX.out.here b1)
      replace BY := Lib.hid (BY.out.here b1)
      have B1 := Lib.hid (thence B0.out b1 (Nat.le_refl _))
      have HLR : Hid (w.heap.size + 1 < w1.heap.size) := BY.out.lt
      clear b1 B0
      obtain ⟨c0, c1, c2, c3⟩ := BX.out.four'
      have ltBX := BX.out.lt
      go_wp2_with fail
      (with_reducible refine (CW.out _).mono ?_)
      rintro e w2 ⟨a1, k1, rfl, -, -, b2⟩
      clear c0 c1 c2 c3 ltBX
      replace BX := Lib.hid (BX.out.here b2)
      replace BY := Lib.hid (BY.out.here b2)
      have B2 := Lib.hid (thence B1.out b2 (Nat.le_refl _))
      clear b2 B1
      obtain ⟨c0, c1, c2, c3⟩ := BX.out.four'
      have ltBX := BX.out.lt
      have q0 : w2.cell? ⟨w.heap.size + 1, 0, none⟩ = some (.int .u8 (x : Int)) := BY.out.cell 0
      have q1 : w2.cell? ⟨w.heap.size + 1, 1, none⟩ = some (.int .u8 (y : Int)) := BY.out.cell 1
      have q2 : w2.cell? ⟨w.heap.size + 1, 2, none⟩ = some (.int .u8 (z : Int)) := BY.out.cell 2
      have q3 : w2.cell? ⟨w.heap.size + 1, 3, none⟩ = some (.int .u8 (u : Int)) := BY.out.cell 3
      go_wp2_with fail
      go_ret
      exact ⟨rfl, B2.out⟩
    by_cases p2 : 120 < at_ ∧ at_ ≠ 124
    · clear h0
      obtain ⟨p2, p3⟩ := p2
      have i0 : (at_ != 124) = true := by simp; omega
      have i0' : (at_ == 124) = false := by simp; omega
      clear p3
      clear hx hy hz hu
      go_enter Try.func6, Try.ntmps6
      go_wp2_with fail
      generalize (w.alloc (.cells #[.int .u32 (id : Int), .int .u32 (age : Int), .int .u32 (seq : Int), .int .i64 tail] 28)).alloc (.cells #[.int .u8 (x : Int), .int .u8 (y : Int), .int .u8 (z : Int), .int .u8 (u : Int)] 40) = W0 at *
      obtain ⟨c0, c1, c2, c3⟩ := BX.out.four'
      have ltBX := BX.out.lt
      (with_reducible refine (CA.out _).mono ?_)
      rintro e w1 ⟨rfl, b1⟩
      clear c0 c1 c2 c3 ltBX
      replace BX := Lib.hid (BX.out.here b1)
      replace BY := Lib.hid (BY.out.here b1)
      have B1 := Lib.hid (thence B0.out b1 (Nat.le_refl _))
      have HLR : Hid (w.heap.size + 1 < w1.heap.size) := BY.out.lt
      clear b1 B0
      obtain ⟨c0, c1, c2, c3⟩ := BX.out.four'
      have ltBX := BX.out.lt
      go_wp2_with fail
      (with_reducible refine (CW.out _).mono ?_)
      rintro e w2 ⟨a1, k1, rfl, -, -, b2⟩
      clear c0 c1 c2 c3 ltBX
      replace BX := Lib.hid (BX.out.here b2)
      replace BY := Lib.hid (BY.out.here b2)
      have B2 := Lib.hid (thence B1.out b2 (Nat.le_refl _))
      clear b2 B1
      obtain ⟨c0, c1, c2, c3⟩ := BX.out.four'
      have ltBX := BX.out.lt
      have q0 : w2.cell? ⟨w.heap.size + 1, 0, none⟩ = some (.int .u8 (x : Int)) := BY.out.cell 0
      have q1 : w2.cell? ⟨w.heap.size + 1, 1, none⟩ = some (.int .u8 (y : Int)) := BY.out.cell 1
      have q2 : w2.cell? ⟨w.heap.size + 1, 2, none⟩ = some (.int .u8 (z : Int)) := BY.out.cell 2
      have q3 : w2.cell? ⟨w.heap.size + 1, 3, none⟩ = some (.int .u8 (u : Int)) := BY.out.cell 3
      go_wp2_with fail
      go_ret
      exact ⟨rfl, B2.out⟩
    obtain ⟨t, rfl⟩ := Int.eq_ofNat_of_zero_le (show 0 ≤ at_ by omega)
    have ht : t ≤ 120 ∨ t = 124 := by omega
    rcases ht with ht | ht
    · have i1 : ¬ (120 : Int) < t := by omega
      have i2 : ((t : Int) != 124) = true := by simp; omega
      have i3 : ((t : Int) == 124) = false := by simp; omega
      clear p2
      have HYB : Hid (Bytes [x, y, z, u]) := by
        intro q hq
        simp only [List.mem_cons, List.not_mem_nil, or_false] at hq
        rcases hq with rfl | rfl | rfl | rfl <;> assumption
      have HU : Hid (¬ SL.Sealed (SL.tw K [x, y, z, u] t 0 4)) := SL.turned HS.out (by omega) hx hy hz hu h0
      have HT : Hid (t + 4 ≤ 128) := by show _ ≤ _; omega
      clear ht h0 hx hy hz hu
      go_enter Try.func6, Try.ntmps6
      go_wp2_with fail
      generalize (w.alloc (.cells #[.int .u32 (id : Int), .int .u32 (age : Int), .int .u32 (seq : Int), .int .i64 tail] 28)).alloc (.cells #[.int .u8 (x : Int), .int .u8 (y : Int), .int .u8 (z : Int), .int .u8 (u : Int)] 40) = W0 at *
      obtain ⟨c0, c1, c2, c3⟩ := BX.out.four'
      have ltBX := BX.out.lt
      (with_reducible refine (CA.out _).mono ?_)
      rintro e w1 ⟨rfl, b1⟩
      clear c0 c1 c2 c3 ltBX
      replace BX := Lib.hid (BX.out.here b1)
      replace BY := Lib.hid (BY.out.here b1)
      have B1 := Lib.hid (thence B0.out b1 (Nat.le_refl _))
      have HLR : Hid (w.heap.size + 1 < w1.heap.size) := BY.out.lt
      clear b1 B0
      obtain ⟨c0, c1, c2, c3⟩ := BX.out.four'
      have ltBX := BX.out.lt
      go_wp2_with fail
      (with_reducible refine (CW.out _).mono ?_)
      rintro e w2 ⟨a1, k1, rfl, r1, mi, b2⟩
      clear c0 c1 c2 c3 ltBX
      replace BX := Lib.hid (BX.out.here b2)
      replace BY := Lib.hid (BY.out.here b2)
      have B2 := Lib.hid (thence B1.out b2 (Nat.le_refl _))
      have R1 := Lib.hid r1
      obtain ⟨gb, rfl, hgb, hfz⟩ := mi
      have HG := Lib.hid hgb
      have FZ := Lib.hid hfz
      clear r1 hgb hfz
      clear b2 B1
      obtain ⟨c0, c1, c2, c3⟩ := BX.out.four'
      have ltBX := BX.out.lt
      have q0 : w2.cell? ⟨w.heap.size + 1, 0, none⟩ = some (.int .u8 (x : Int)) := BY.out.cell 0
      have q1 : w2.cell? ⟨w.heap.size + 1, 1, none⟩ = some (.int .u8 (y : Int)) := BY.out.cell 1
      have q2 : w2.cell? ⟨w.heap.size + 1, 2, none⟩ = some (.int .u8 (z : Int)) := BY.out.cell 2
      have q3 : w2.cell? ⟨w.heap.size + 1, 3, none⟩ = some (.int .u8 (u : Int)) := BY.out.cell 3
      go_wp2_with fail
      clear q0 q1 q2 q3 c0 c1 c2 c3 ltBX
      have HNE : Hid (gb ≠ w.heap.size + 1) := by have := HG.out; have := HLR.out; show _ ≠ _; omega
      have HGW : Hid (w.heap.size ≤ gb) := by have := HG.out; have := HLR.out; show _ ≤ _; omega
      go_loopw [10] (fun i wr => ∃ k : Nat, k ≤ 4 ∧ i = .int .i64 k ∧ Hid (Rd wr.heap.size wr (some ⟨gb, 0, none⟩) 128 k1 (SL.tw K [x, y, z, u] t 0 k)) ∧ Hid (∀ i, wr.frozen? ⟨gb, i, none⟩ = false) ∧ Hid (Bx wr (w.heap.size + 1) ([x, y, z, u].map bv)) ∧ Hid (Below w.heap.size w wr)) (fun i _ => 4 - (intOf i).toNat)
      case atStart => exact ⟨0, by omega, rfl, by rw [SL.tw_none]; exact R1, FZ, BY, B2⟩
      case round =>
        obtain ⟨k, hk, rfl, R3, F3, Y3, B3⟩ := hrel
        by_cases hlt : k < 4
        · have hlen : (SL.tw K [x, y, z, u] t 0 k).length = 128 := by rw [SL.tw_length, HS.out.len]
          obtain ⟨b, off, eb, hbl, hcells⟩ := R3.out.cells (by intro e; rw [e] at hlen; cases hlen)
          injection eb with eb
          injection eb with e1 e2 _
          subst e1 e2
          have f1 := hcells (t + k) (by rw [hlen]; have := HT.out; omega)
          rw [SL.tw_here _ _ _ _ _ _ (by rw [HS.out.len]; have := HT.out; omega) (.inr (Nat.le_refl _)), Nat.zero_add] at f1
          have f2 := F3.out (t + k)
          have f3 : wr.cell? ⟨w.heap.size + 1, k, none⟩ = some (.int .u8 (([x, y, z, u].getD k 0 : Nat) : Int)) := by
            rw [Y3.out.cell k, map_bv_get _ _ hlt]
          have hs := R3.out.put (t + k) (K.getD (t + k) 0 ^^^ [x, y, z, u].getD k 0) (by rw [hlen]; have := HT.out; omega) (SL.xor_byte (PK.getD_lt HS.out.byt _) (PK.getD_lt HYB.out _))
          rw [SL.tw_up _ _ _ _ (by rw [HS.out.len]; have := HT.out; omega)] at hs
          have hxor := bytes_xor (K.getD (t + k) 0) ([x, y, z, u].getD k 0) (PK.getD_lt HS.out.byt _) (PK.getD_lt HYB.out _)
          have RS := Lib.hid hs
          have ltb := hbl
          have lty := Y3.out.lt
          have htk : (t : Int) + k < 128 := by have := HT.out; omega
          have hw1 : IntKind.i64.wrap ((t : Int) + (k : Int)) = (t : Int) + (k : Int) := by have := HT.out; exact IntWalk.i64_in _ (by omega)
          have hw2 : (0 : Int) ≤ (t : Int) + (k : Int) := by omega
          have hw3 : ((t : Int) + (k : Int)).toNat = t + k := by omega
          clear hs hcells hlen hbl
          generalize K.getD (t + k) 0 = o at *
          generalize [x, y, z, u].getD k 0 = yk at *
          go_wp2_with fail
          refine wp_region_noPanic ?_
          refine PX.wp_region_y (fun w' => Below wr.heap.size wr w') [11] (by kernel_rfl) (Below.refl _ _).drew (fun hHeld => ?_)
          refine PX.wpAnyY_take (i := 0) (oi := ?_) (v := ?_) ?_ (by kernel_rfl) (by kernel_rfl) (by kernel_rfl) (by kernel_rfl) (by kernel_rfl) (fun _ _ _ h => h) (Or.inl ⟨?_, ?_⟩) (by assumption) ?_
          rotate_left 2
          · simp only [List.getElem?_toArray, List.getElem?_cons_succ, List.getElem?_cons_zero]; rfl
          · rfl
          · intro w hSw; (try dsimp only at hSw); go_simp <;> with_reducible rfl
          (try simp only [Act.put, List.setIfInBounds_toArray, List.set_cons_zero, List.set_cons_succ])
          refine PX.wpAnyY_take (i := 1) (oi := ?_) (v := ?_) ?_ (by kernel_rfl) (by kernel_rfl) (by kernel_rfl) (by kernel_rfl) (by kernel_rfl) (fun _ _ _ h => h) (Or.inl ⟨?_, ?_⟩) (by assumption) ?_
          rotate_left 2
          · simp only [List.getElem?_toArray, List.getElem?_cons_succ, List.getElem?_cons_zero]; rfl
          · rfl
          · intro w hSw; (try dsimp only at hSw); go_simp <;> with_reducible rfl
          (try simp only [Act.put, List.setIfInBounds_toArray, List.set_cons_zero, List.set_cons_succ])
          refine PX.wpAnyY_take (i := 2) (oi := ?_) (v := ?_) ?_ (by kernel_rfl) (by kernel_rfl) (by kernel_rfl) (by kernel_rfl) (by kernel_rfl) (fun _ _ _ h => h) (Or.inl ⟨?_, ?_⟩) (by assumption) ?_
          rotate_left 2
          · simp only [List.getElem?_toArray, List.getElem?_cons_succ, List.getElem?_cons_zero]; rfl
          · rfl
          · intro w hSw; (try dsimp only at hSw); go_simp <;> with_reducible rfl
          (try simp only [Act.put, List.setIfInBounds_toArray, List.set_cons_zero, List.set_cons_succ])
          refine PX.wpAnyY_take (i := 3) (oi := ?_) (v := ?_) ?_ (by kernel_rfl) (by kernel_rfl) (by kernel_rfl) (by kernel_rfl) (by kernel_rfl) (fun _ _ _ h => h) (Or.inl ⟨?_, ?_⟩) (by assumption) ?_
          rotate_left 2
          · simp only [List.getElem?_toArray, List.getElem?_cons_succ, List.getElem?_cons_zero]; rfl
          · rfl
          · intro w hSw; (try dsimp only at hSw); go_simp <;> with_reducible rfl
          (try simp only [Act.put, List.setIfInBounds_toArray, List.set_cons_zero, List.set_cons_succ])
          refine PX.wpAnyY_take (i := 4) (oi := ?_) (v := ?_) ?_ (by kernel_rfl) (by kernel_rfl) (by kernel_rfl) (by kernel_rfl) (by kernel_rfl) (fun _ _ _ h => h) (Or.inl ⟨?_, ?_⟩) (by assumption) ?_
          rotate_left 2
          · simp only [List.getElem?_toArray, List.getElem?_cons_succ, List.getElem?_cons_zero]; rfl
          · rfl
          · intro w hSw; (try dsimp only at hSw); go_simp <;> with_reducible rfl
          (try simp only [Act.put, List.setIfInBounds_toArray, List.set_cons_zero, List.set_cons_succ])
          refine PX.wpAnyY_take (i := 5) (oi := ?_) (v := ?_) ?_ (by kernel_rfl) (by kernel_rfl) (by kernel_rfl) (by kernel_rfl) (by kernel_rfl) (fun _ _ _ h => h) (Or.inl ⟨?_, ?_⟩) (by assumption) ?_
          rotate_left 2
          · simp only [List.getElem?_toArray, List.getElem?_cons_succ, List.getElem?_cons_zero]; rfl
          · rfl
          · intro w hSw; (try dsimp only at hSw); have hC := fun (b o : Nat) (h : b < wr.heap.size) => Below.cell hSw (p := ⟨b, o, none⟩) h; go_simp <;> with_reducible rfl
          (try simp only [Act.put, List.setIfInBounds_toArray, List.set_cons_zero, List.set_cons_succ])
          refine PX.wpAnyY_one (i := 6) (o := ?_) (by kernel_rfl) ?_ (fun Kq hKq => ?_)
          rotate_left
          · simp only [List.getElem?_toArray, List.getElem?_cons_succ, List.getElem?_cons_zero]; rfl
          go_simp
          refine hKq.out _ _ (hHeld) (fun hHeld => ?_)
          clear hKq Kq
          (try simp only [Act.put, List.setIfInBounds_toArray, List.set_cons_zero, List.set_cons_succ])
          refine PX.wpAnyY_one (i := 7) (o := ?_) (by kernel_rfl) ?_ (fun Kq hKq => ?_)
          rotate_left
          · simp only [List.getElem?_toArray, List.getElem?_cons_succ, List.getElem?_cons_zero]; rfl
          go_simp
          refine hKq.out _ _ (hHeld) (fun hHeld => ?_)
          clear hKq Kq
          (try simp only [Act.put, List.setIfInBounds_toArray, List.set_cons_zero, List.set_cons_succ])
          refine PX.wpAnyY_take (i := 8) (oi := ?_) (v := ?_) ?_ (by kernel_rfl) (by kernel_rfl) (by kernel_rfl) (by kernel_rfl) (by kernel_rfl) (fun _ _ _ h => h) (Or.inl ⟨?_, ?_⟩) (by assumption) ?_
          rotate_left 2
          · simp only [List.getElem?_toArray, List.getElem?_cons_succ, List.getElem?_cons_zero]; rfl
          · rfl
          · intro w hSw; (try dsimp only at hSw); have hC := fun (b o : Nat) (h : b < wr.heap.size) => Below.cell hSw (p := ⟨b, o, none⟩) h; go_simp <;> with_reducible rfl
          (try simp only [Act.put, List.setIfInBounds_toArray, List.set_cons_zero, List.set_cons_succ])
          refine PX.wpAnyY_one (i := 9) (o := ?_) (by kernel_rfl) ?_ (fun Kq hKq => ?_)
          rotate_left
          · simp only [List.getElem?_toArray, List.getElem?_cons_succ, List.getElem?_cons_zero]; rfl
          go_simp
          refine hKq.out _ _ (hHeld) (fun hHeld => ?_)
          clear hKq Kq
          (try simp only [Act.put, List.setIfInBounds_toArray, List.set_cons_zero, List.set_cons_succ])
          refine PX.wpAnyY_one (i := 10) (o := ?_) (by kernel_rfl) ?_ (fun Kq hKq => ?_)
          rotate_left
          · simp only [List.getElem?_toArray, List.getElem?_cons_succ, List.getElem?_cons_zero]; rfl
          go_simp
          refine hKq.out _ _ (hHeld) (fun hHeld => ?_)
          clear hKq Kq
          (try simp only [Act.put, List.setIfInBounds_toArray, List.set_cons_zero, List.set_cons_succ])
          refine PX.wpAnyY_free (i := 11) (o := ?_) (by kernel_rfl) (by kernel_rfl) ?_ (fun Kq hKq => ?_)
          rotate_left
          · simp only [List.getElem?_toArray, List.getElem?_cons_succ, List.getElem?_cons_zero]; rfl
          go_simp
          refine hKq.out _ _ ?_
          clear hKq Kq
          (try simp only [Act.put, List.setIfInBounds_toArray, List.set_cons_zero, List.set_cons_succ])
          refine PX.wpAnyY_done (by kernel_rfl) ?_ _
          refine NoPanic.normal ?_
          have N1 : Hid (Rd (wr.setCell ⟨gb, t + k, none⟩ (.int .u8 ((o ^^^ yk : Nat) : Int))).drew.heap.size (wr.setCell ⟨gb, t + k, none⟩ (.int .u8 ((o ^^^ yk : Nat) : Int))).drew (some ⟨gb, 0, none⟩) 128 k1 (SL.tw K [x, y, z, u] t 0 (k + 1))) := (Rd.below RS.out (Below.refl _ _).drew).mono (Nat.le_of_eq (by simp))
          have N2 : Hid (∀ i, (wr.setCell ⟨gb, t + k, none⟩ (.int .u8 ((o ^^^ yk : Nat) : Int))).drew.frozen? ⟨gb, i, none⟩ = false) := fun i => by show (wr.setCell ⟨gb, t + k, none⟩ (.int .u8 ((o ^^^ yk : Nat) : Int))).frozen? _ = false; rw [World.frozen?_setCell]; exact F3.out i
          have N3 : Hid (Bx (wr.setCell ⟨gb, t + k, none⟩ (.int .u8 ((o ^^^ yk : Nat) : Int))).drew (w.heap.size + 1) ([x, y, z, u].map bv)) := (Y3.out.other ⟨gb, t + k, none⟩ HNE.out _).drew
          have N4 : Hid (Below w.heap.size w (wr.setCell ⟨gb, t + k, none⟩ (.int .u8 ((o ^^^ yk : Nat) : Int))).drew) := (B3.out.setCell HGW.out _).drew
          generalize (wr.setCell ⟨gb, t + k, none⟩ (.int .u8 ((o ^^^ yk : Nat) : Int))).drew = wn at *
          go_wp2_with fail
          go_roundw
          case rel => exact ⟨k + 1, by omega, by go_num, N1, N2, N3, N4⟩
          case measure => simp [intOf]; omega
        · obtain rfl : k = 4 := by omega
          have hl4 : (SL.tw K [x, y, z, u] t 0 4).length = 128 := by rw [SL.tw_length, HS.out.len]
          have CR : Hid (Calls Try.prog 11 #[.slice (some ⟨gb, 0, none⟩) 128 k1] wr fun e w' => e = .returned (.tuple #[.agg #[.int .u32 0, .int .u32 0, .int .u32 0, .int .i64 0], .int .i64 90]) ∧ Below wr.heap.size wr w') := by
            have := I.read (some ⟨gb, 0, none⟩) 128 k1 _ wr R3.out
            rw [SB.rd_unsealed hl4 R3.out.byt HU.out] at this
            exact this
          clear hl4
          go_wp2_with fail
          (with_reducible refine CR.out.mono ?_)
          rintro e w5 ⟨rfl, b5⟩
          have B5 := Lib.hid ((B3.out.trans (b5.mono B3.out.size)).trans ((Below.refl w5.heap.size w5).alloc (Nat.le_refl _) (.cells #[.int .u32 0, .int .u32 0, .int .u32 0, .int .i64 0] 28) |>.mono (Nat.le_trans B3.out.size b5.size)))
          clear b5
          go_wp2_with fail
          go_ret
          exact ⟨rfl, B5.out⟩
    · have i2 : ((t : Int) != 124) = false := by simp; omega
      have i3 : ((t : Int) == 124) = true := by simp; omega
      clear p2
      have HYB : Hid (Bytes [x, y, z, u]) := by
        intro q hq
        simp only [List.mem_cons, List.not_mem_nil, or_false] at hq
        rcases hq with rfl | rfl | rfl | rfl <;> assumption
      have HU : Hid (¬ SL.Sealed (SL.tw K [x, y, z, u] t 0 4)) := SL.turned HS.out (by omega) hx hy hz hu h0
      have HT : Hid (t + 4 ≤ 128) := by show _ ≤ _; omega
      clear ht h0 hx hy hz hu
      go_enter Try.func6, Try.ntmps6
      go_wp2_with fail
      generalize (w.alloc (.cells #[.int .u32 (id : Int), .int .u32 (age : Int), .int .u32 (seq : Int), .int .i64 tail] 28)).alloc (.cells #[.int .u8 (x : Int), .int .u8 (y : Int), .int .u8 (z : Int), .int .u8 (u : Int)] 40) = W0 at *
      obtain ⟨c0, c1, c2, c3⟩ := BX.out.four'
      have ltBX := BX.out.lt
      (with_reducible refine (CA.out _).mono ?_)
      rintro e w1 ⟨rfl, b1⟩
      clear c0 c1 c2 c3 ltBX
      replace BX := Lib.hid (BX.out.here b1)
      replace BY := Lib.hid (BY.out.here b1)
      have B1 := Lib.hid (thence B0.out b1 (Nat.le_refl _))
      have HLR : Hid (w.heap.size + 1 < w1.heap.size) := BY.out.lt
      clear b1 B0
      obtain ⟨c0, c1, c2, c3⟩ := BX.out.four'
      have ltBX := BX.out.lt
      go_wp2_with fail
      (with_reducible refine (CW.out _).mono ?_)
      rintro e w2 ⟨a1, k1, rfl, r1, mi, b2⟩
      clear c0 c1 c2 c3 ltBX
      replace BX := Lib.hid (BX.out.here b2)
      replace BY := Lib.hid (BY.out.here b2)
      have B2 := Lib.hid (thence B1.out b2 (Nat.le_refl _))
      have R1 := Lib.hid r1
      obtain ⟨gb, rfl, hgb, hfz⟩ := mi
      have HG := Lib.hid hgb
      have FZ := Lib.hid hfz
      clear r1 hgb hfz
      clear b2 B1
      obtain ⟨c0, c1, c2, c3⟩ := BX.out.four'
      have ltBX := BX.out.lt
      have q0 : w2.cell? ⟨w.heap.size + 1, 0, none⟩ = some (.int .u8 (x : Int)) := BY.out.cell 0
      have q1 : w2.cell? ⟨w.heap.size + 1, 1, none⟩ = some (.int .u8 (y : Int)) := BY.out.cell 1
      have q2 : w2.cell? ⟨w.heap.size + 1, 2, none⟩ = some (.int .u8 (z : Int)) := BY.out.cell 2
      have q3 : w2.cell? ⟨w.heap.size + 1, 3, none⟩ = some (.int .u8 (u : Int)) := BY.out.cell 3
      go_wp2_with fail
      clear q0 q1 q2 q3 c0 c1 c2 c3 ltBX
      have HNE : Hid (gb ≠ w.heap.size + 1) := by have := HG.out; have := HLR.out; show _ ≠ _; omega
      have HGW : Hid (w.heap.size ≤ gb) := by have := HG.out; have := HLR.out; show _ ≤ _; omega
      go_loopw [10] (fun i wr => ∃ k : Nat, k ≤ 4 ∧ i = .int .i64 k ∧ Hid (Rd wr.heap.size wr (some ⟨gb, 0, none⟩) 128 k1 (SL.tw K [x, y, z, u] t 0 k)) ∧ Hid (∀ i, wr.frozen? ⟨gb, i, none⟩ = false) ∧ Hid (Bx wr (w.heap.size + 1) ([x, y, z, u].map bv)) ∧ Hid (Below w.heap.size w wr)) (fun i _ => 4 - (intOf i).toNat)
      case atStart => exact ⟨0, by omega, rfl, by rw [SL.tw_none]; exact R1, FZ, BY, B2⟩
      case round =>
        obtain ⟨k, hk, rfl, R3, F3, Y3, B3⟩ := hrel
        by_cases hlt : k < 4
        · have hlen : (SL.tw K [x, y, z, u] t 0 k).length = 128 := by rw [SL.tw_length, HS.out.len]
          obtain ⟨b, off, eb, hbl, hcells⟩ := R3.out.cells (by intro e; rw [e] at hlen; cases hlen)
          injection eb with eb
          injection eb with e1 e2 _
          subst e1 e2
          have f1 := hcells (t + k) (by rw [hlen]; have := HT.out; omega)
          rw [SL.tw_here _ _ _ _ _ _ (by rw [HS.out.len]; have := HT.out; omega) (.inr (Nat.le_refl _)), Nat.zero_add] at f1
          have f2 := F3.out (t + k)
          have f3 : wr.cell? ⟨w.heap.size + 1, k, none⟩ = some (.int .u8 (([x, y, z, u].getD k 0 : Nat) : Int)) := by
            rw [Y3.out.cell k, map_bv_get _ _ hlt]
          have hs := R3.out.put (t + k) (K.getD (t + k) 0 ^^^ [x, y, z, u].getD k 0) (by rw [hlen]; have := HT.out; omega) (SL.xor_byte (PK.getD_lt HS.out.byt _) (PK.getD_lt HYB.out _))
          rw [SL.tw_up _ _ _ _ (by rw [HS.out.len]; have := HT.out; omega)] at hs
          have hxor := bytes_xor (K.getD (t + k) 0) ([x, y, z, u].getD k 0) (PK.getD_lt HS.out.byt _) (PK.getD_lt HYB.out _)
          have RS := Lib.hid hs
          have ltb := hbl
          have lty := Y3.out.lt
          have htk : (t : Int) + k < 128 := by have := HT.out; omega
          have hw1 : IntKind.i64.wrap ((t : Int) + (k : Int)) = (t : Int) + (k : Int) := by have := HT.out; exact IntWalk.i64_in _ (by omega)
          have hw2 : (0 : Int) ≤ (t : Int) + (k : Int) := by omega
          have hw3 : ((t : Int) + (k : Int)).toNat = t + k := by omega
          clear hs hcells hlen hbl
          generalize K.getD (t + k) 0 = o at *
          generalize [x, y, z, u].getD k 0 = yk at *
          go_wp2_with fail
          refine wp_region_noPanic ?_
          refine PX.wp_region_y (fun w' => Below wr.heap.size wr w') [11] (by kernel_rfl) (Below.refl _ _).drew (fun hHeld => ?_)
          refine PX.wpAnyY_take (i := 0) (oi := ?_) (v := ?_) ?_ (by kernel_rfl) (by kernel_rfl) (by kernel_rfl) (by kernel_rfl) (by kernel_rfl) (fun _ _ _ h => h) (Or.inl ⟨?_, ?_⟩) (by assumption) ?_
          rotate_left 2
          · simp only [List.getElem?_toArray, List.getElem?_cons_succ, List.getElem?_cons_zero]; rfl
          · rfl
          · intro w hSw; (try dsimp only at hSw); go_simp <;> with_reducible rfl
          (try simp only [Act.put, List.setIfInBounds_toArray, List.set_cons_zero, List.set_cons_succ])
          refine PX.wpAnyY_take (i := 1) (oi := ?_) (v := ?_) ?_ (by kernel_rfl) (by kernel_rfl) (by kernel_rfl) (by kernel_rfl) (by kernel_rfl) (fun _ _ _ h => h) (Or.inl ⟨?_, ?_⟩) (by assumption) ?_
          rotate_left 2
          · simp only [List.getElem?_toArray, List.getElem?_cons_succ, List.getElem?_cons_zero]; rfl
          · rfl
          · intro w hSw; (try dsimp only at hSw); go_simp <;> with_reducible rfl
          (try simp only [Act.put, List.setIfInBounds_toArray, List.set_cons_zero, List.set_cons_succ])
          refine PX.wpAnyY_take (i := 2) (oi := ?_) (v := ?_) ?_ (by kernel_rfl) (by kernel_rfl) (by kernel_rfl) (by kernel_rfl) (by kernel_rfl) (fun _ _ _ h => h) (Or.inl ⟨?_, ?_⟩) (by assumption) ?_
          rotate_left 2
          · simp only [List.getElem?_toArray, List.getElem?_cons_succ, List.getElem?_cons_zero]; rfl
          · rfl
          · intro w hSw; (try dsimp only at hSw); go_simp <;> with_reducible rfl
          (try simp only [Act.put, List.setIfInBounds_toArray, List.set_cons_zero, List.set_cons_succ])
          refine PX.wpAnyY_take (i := 3) (oi := ?_) (v := ?_) ?_ (by kernel_rfl) (by kernel_rfl) (by kernel_rfl) (by kernel_rfl) (by kernel_rfl) (fun _ _ _ h => h) (Or.inl ⟨?_, ?_⟩) (by assumption) ?_
          rotate_left 2
          · simp only [List.getElem?_toArray, List.getElem?_cons_succ, List.getElem?_cons_zero]; rfl
          · rfl
          · intro w hSw; (try dsimp only at hSw); go_simp <;> with_reducible rfl
          (try simp only [Act.put, List.setIfInBounds_toArray, List.set_cons_zero, List.set_cons_succ])
          refine PX.wpAnyY_take (i := 4) (oi := ?_) (v := ?_) ?_ (by kernel_rfl) (by kernel_rfl) (by kernel_rfl) (by kernel_rfl) (by kernel_rfl) (fun _ _ _ h => h) (Or.inl ⟨?_, ?_⟩) (by assumption) ?_
          rotate_left 2
          · simp only [List.getElem?_toArray, List.getElem?_cons_succ, List.getElem?_cons_zero]; rfl
          · rfl
          · intro w hSw; (try dsimp only at hSw); go_simp <;> with_reducible rfl
          (try simp only [Act.put, List.setIfInBounds_toArray, List.set_cons_zero, List.set_cons_succ])
          refine PX.wpAnyY_take (i := 5) (oi := ?_) (v := ?_) ?_ (by kernel_rfl) (by kernel_rfl) (by kernel_rfl) (by kernel_rfl) (by kernel_rfl) (fun _ _ _ h => h) (Or.inl ⟨?_, ?_⟩) (by assumption) ?_
          rotate_left 2
          · simp only [List.getElem?_toArray, List.getElem?_cons_succ, List.getElem?_cons_zero]; rfl
          · rfl
          · intro w hSw; (try dsimp only at hSw); have hC := fun (b o : Nat) (h : b < wr.heap.size) => Below.cell hSw (p := ⟨b, o, none⟩) h; go_simp <;> with_reducible rfl
          (try simp only [Act.put, List.setIfInBounds_toArray, List.set_cons_zero, List.set_cons_succ])
          refine PX.wpAnyY_one (i := 6) (o := ?_) (by kernel_rfl) ?_ (fun Kq hKq => ?_)
          rotate_left
          · simp only [List.getElem?_toArray, List.getElem?_cons_succ, List.getElem?_cons_zero]; rfl
          go_simp
          refine hKq.out _ _ (hHeld) (fun hHeld => ?_)
          clear hKq Kq
          (try simp only [Act.put, List.setIfInBounds_toArray, List.set_cons_zero, List.set_cons_succ])
          refine PX.wpAnyY_one (i := 7) (o := ?_) (by kernel_rfl) ?_ (fun Kq hKq => ?_)
          rotate_left
          · simp only [List.getElem?_toArray, List.getElem?_cons_succ, List.getElem?_cons_zero]; rfl
          go_simp
          refine hKq.out _ _ (hHeld) (fun hHeld => ?_)
          clear hKq Kq
          (try simp only [Act.put, List.setIfInBounds_toArray, List.set_cons_zero, List.set_cons_succ])
          refine PX.wpAnyY_take (i := 8) (oi := ?_) (v := ?_) ?_ (by kernel_rfl) (by kernel_rfl) (by kernel_rfl) (by kernel_rfl) (by kernel_rfl) (fun _ _ _ h => h) (Or.inl ⟨?_, ?_⟩) (by assumption) ?_
          rotate_left 2
          · simp only [List.getElem?_toArray, List.getElem?_cons_succ, List.getElem?_cons_zero]; rfl
          · rfl
          · intro w hSw; (try dsimp only at hSw); have hC := fun (b o : Nat) (h : b < wr.heap.size) => Below.cell hSw (p := ⟨b, o, none⟩) h; go_simp <;> with_reducible rfl
          (try simp only [Act.put, List.setIfInBounds_toArray, List.set_cons_zero, List.set_cons_succ])
          refine PX.wpAnyY_one (i := 9) (o := ?_) (by kernel_rfl) ?_ (fun Kq hKq => ?_)
          rotate_left
          · simp only [List.getElem?_toArray, List.getElem?_cons_succ, List.getElem?_cons_zero]; rfl
          go_simp
          refine hKq.out _ _ (hHeld) (fun hHeld => ?_)
          clear hKq Kq
          (try simp only [Act.put, List.setIfInBounds_toArray, List.set_cons_zero, List.set_cons_succ])
          refine PX.wpAnyY_one (i := 10) (o := ?_) (by kernel_rfl) ?_ (fun Kq hKq => ?_)
          rotate_left
          · simp only [List.getElem?_toArray, List.getElem?_cons_succ, List.getElem?_cons_zero]; rfl
          go_simp
          refine hKq.out _ _ (hHeld) (fun hHeld => ?_)
          clear hKq Kq
          (try simp only [Act.put, List.setIfInBounds_toArray, List.set_cons_zero, List.set_cons_succ])
          refine PX.wpAnyY_free (i := 11) (o := ?_) (by kernel_rfl) (by kernel_rfl) ?_ (fun Kq hKq => ?_)
          rotate_left
          · simp only [List.getElem?_toArray, List.getElem?_cons_succ, List.getElem?_cons_zero]; rfl
          go_simp
          refine hKq.out _ _ ?_
          clear hKq Kq
          (try simp only [Act.put, List.setIfInBounds_toArray, List.set_cons_zero, List.set_cons_succ])
          refine PX.wpAnyY_done (by kernel_rfl) ?_ _
          refine NoPanic.normal ?_
          have N1 : Hid (Rd (wr.setCell ⟨gb, t + k, none⟩ (.int .u8 ((o ^^^ yk : Nat) : Int))).drew.heap.size (wr.setCell ⟨gb, t + k, none⟩ (.int .u8 ((o ^^^ yk : Nat) : Int))).drew (some ⟨gb, 0, none⟩) 128 k1 (SL.tw K [x, y, z, u] t 0 (k + 1))) := (Rd.below RS.out (Below.refl _ _).drew).mono (Nat.le_of_eq (by simp))
          have N2 : Hid (∀ i, (wr.setCell ⟨gb, t + k, none⟩ (.int .u8 ((o ^^^ yk : Nat) : Int))).drew.frozen? ⟨gb, i, none⟩ = false) := fun i => by show (wr.setCell ⟨gb, t + k, none⟩ (.int .u8 ((o ^^^ yk : Nat) : Int))).frozen? _ = false; rw [World.frozen?_setCell]; exact F3.out i
          have N3 : Hid (Bx (wr.setCell ⟨gb, t + k, none⟩ (.int .u8 ((o ^^^ yk : Nat) : Int))).drew (w.heap.size + 1) ([x, y, z, u].map bv)) := (Y3.out.other ⟨gb, t + k, none⟩ HNE.out _).drew
          have N4 : Hid (Below w.heap.size w (wr.setCell ⟨gb, t + k, none⟩ (.int .u8 ((o ^^^ yk : Nat) : Int))).drew) := (B3.out.setCell HGW.out _).drew
          generalize (wr.setCell ⟨gb, t + k, none⟩ (.int .u8 ((o ^^^ yk : Nat) : Int))).drew = wn at *
          go_wp2_with fail
          go_roundw
          case rel => exact ⟨k + 1, by omega, by go_num, N1, N2, N3, N4⟩
          case measure => simp [intOf]; omega
        · obtain rfl : k = 4 := by omega
          have hl4 : (SL.tw K [x, y, z, u] t 0 4).length = 128 := by rw [SL.tw_length, HS.out.len]
          have CR : Hid (Calls Try.prog 11 #[.slice (some ⟨gb, 0, none⟩) 128 k1] wr fun e w' => e = .returned (.tuple #[.agg #[.int .u32 0, .int .u32 0, .int .u32 0, .int .i64 0], .int .i64 90]) ∧ Below wr.heap.size wr w') := by
            have := I.read (some ⟨gb, 0, none⟩) 128 k1 _ wr R3.out
            rw [SB.rd_unsealed hl4 R3.out.byt HU.out] at this
            exact this
          clear hl4
          go_wp2_with fail
          (with_reducible refine CR.out.mono ?_)
          rintro e w5 ⟨rfl, b5⟩
          have B5 := Lib.hid ((B3.out.trans (b5.mono B3.out.size)).trans ((Below.refl w5.heap.size w5).alloc (Nat.le_refl _) (.cells #[.int .u32 0, .int .u32 0, .int .u32 0, .int .i64 0] 28) |>.mono (Nat.le_trans B3.out.size b5.size)))
          clear b5
          go_wp2_with fail
          go_ret
          exact ⟨rfl, B5.out⟩
end Go.Proofs.Ytjdcnajppjamgaa.PW
