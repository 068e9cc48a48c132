/-
  Contract of layer 5's 'alive': the chapter's first examples.
-/
import Derived.Test.YtnhfkfihlkbkfaaActsTold
import Derived.Test.YtnhfkfihlkbkfaaActsCrash
import Derived.Test.YtnhfkfihlkbkfaaActsWaits
namespace Go.Proofs.Ytnhfkfihlkbkfaa.PW
open Go.RowKit
open DK (Dv)
set_option linter.unusedVariables false
set_option linter.unusedSimpArgs false
set_option maxRecDepth 100000

def two2 : List Dv := [DK.fresh 2, DK.fresh 2]
def aliveA : List Dv := AK.ran two2 someActs 1 AK.did
def aliveB : List Dv := AK.ran two2 someActs 2 AK.did
def aliveC (ks : List Bool) : List Dv := AK.crashed aliveA ks AK.cut
theorem alive_n1 : AK.ncode two2 someActs 1 AK.did = 0 := by kernel_rfl
theorem alive_n2 : AK.ncode two2 someActs 2 AK.did = 0 := by kernel_rfl
theorem alive_wa : wcount aliveA = 1 ∧ AK.dcode aliveA = 0 := ⟨by kernel_rfl, by kernel_rfl⟩
theorem alive_wb : wcount aliveB = 0 ∧ AK.dcode aliveB = 0 := ⟨by kernel_rfl, by kernel_rfl⟩
theorem alive_c1 : AK.ccode aliveA [true] = 0 := by kernel_rfl
theorem alive_c2 : AK.ccode aliveA [false] = 0 := by kernel_rfl
theorem alive_c3 : AK.ccode aliveA [] = 0 := by kernel_rfl
theorem alive_tb : told (ltext (aliveB.getD 0 Dv.nil) 1) (DK.rcode (aliveB.getD 0 Dv.nil) 1) 120 = true := by kernel_rfl
theorem alive_t1 : told (ltext ((aliveC [true]).getD 0 Dv.nil) 1) (DK.rcode ((aliveC [true]).getD 0 Dv.nil) 1) 120 = true := by kernel_rfl
theorem alive_t2 : told (ltext ((aliveC [false]).getD 0 Dv.nil) 1) (DK.rcode ((aliveC [false]).getD 0 Dv.nil) 1) 0 = true := by kernel_rfl
theorem alive_t3 : told (ltext ((aliveC []).getD 0 Dv.nil) 1) (DK.rcode ((aliveC []).getD 0 Dv.nil) 1) 0 = true := by kernel_rfl

theorem NewDs.here {w w' w'' : World} {Ds : List Dv} {v : Value} (h : NewDs w Ds v w') (hb : Below w'.heap.size w' w'') : NewDs w Ds v w'' := by
  obtain ⟨a, len, cap, M, rfl, rg, hd, ho⟩ := h
  exact ⟨a, len, cap, M, rfl, rg.here hb, hd, fun x hx => (ho x hx).here hb⟩

set_option maxHeartbeats 1000000 in
theorem alive5_any (w : World) : Calls Try.prog 15 #[] w fun e w' => e = .returned (.bool true) ∧ Below w.heap.size w w' := by
  have CT : Hid (∀ w1, Calls Try.prog 11 #[] w1 (NewDv w1 two2)) := two_any
  have CS : Hid (∀ w1, Calls Try.prog 12 #[] w1 (NewAs w1 someActs)) := some_any
  have CR1 : Hid (∀ w1 b dn dc L a len cap M, Rg kDn 0 w1.heap.size w1 b dn dc L → Rg kAx 0 w1.heap.size w1 a len cap M → devs L = two2 → acs M = someActs → Calls Try.prog 10 #[.slice b dn dc, .slice a len cap, .int .i64 1] w1 (DsEnd w1 aliveA 0)) := fun w1 b dn dc L a len cap M h1 h2 h3 h4 => by
    have := run_any b dn dc L a len cap M 1 w1 h1 h2
    rw [h3, h4, alive_n1] at this; exact this
  have CR2 : Hid (∀ w1 b dn dc L a len cap M, Rg kDn 0 w1.heap.size w1 b dn dc L → Rg kAx 0 w1.heap.size w1 a len cap M → devs L = two2 → acs M = someActs → Calls Try.prog 10 #[.slice b dn dc, .slice a len cap, .int .i64 2] w1 (DsEnd w1 aliveB 0)) := fun w1 b dn dc L a len cap M h1 h2 h3 h4 => by
    have := run_any b dn dc L a len cap M 2 w1 h1 h2
    rw [h3, h4, alive_n2] at this; exact this
  have CW1 : Hid (∀ w1 b dn dc L, Rg kDn 0 w1.heap.size w1 b dn dc L → devs L = aliveA → Calls Try.prog 28 #[.slice b dn dc] w1 fun e w' => e = .returned (.tuple #[.int .i64 1, .int .i64 0]) ∧ Below w1.heap.size w1 w') := fun w1 b dn dc L h1 h3 => by
    have := waits_any b dn dc L w1 h1
    rw [h3, alive_wa.1, alive_wa.2] at this; exact this
  have CW2 : Hid (∀ w1 b dn dc L, Rg kDn 0 w1.heap.size w1 b dn dc L → devs L = aliveB → Calls Try.prog 28 #[.slice b dn dc] w1 fun e w' => e = .returned (.tuple #[.int .i64 0, .int .i64 0]) ∧ Below w1.heap.size w1 w') := fun w1 b dn dc L h1 h3 => by
    have := waits_any b dn dc L w1 h1
    rw [h3, alive_wb.1, alive_wb.2] at this; exact this
  have CC : Hid (∀ w1 b dn dc L ka kl kc ks, Rg kDn 0 w1.heap.size w1 b dn dc L → Rg kBool 0 w1.heap.size w1 ka kl kc ks → devs L = aliveA → AK.ccode aliveA ks = 0 → Calls Try.prog 13 #[.slice b dn dc, .slice ka kl kc] w1 (DsEnd w1 (aliveC ks) 0)) := fun w1 b dn dc L ka kl kc ks h1 h2 h3 h4 => by
    have := crash_any b dn dc L ka kl kc ks w1 h1 h2
    rw [h3, h4] at this; exact this
  have CL : Hid (∀ w1 Ds b dn dc L (x : Nat), Rg kDn 0 w1.heap.size w1 b dn dc L → devs L = Ds → Ds.length = 2 → x < 256 → told (ltext (Ds.getD 0 Dv.nil) 1) (DK.rcode (Ds.getD 0 Dv.nil) 1) x = true → Calls Try.prog 47 #[.slice b dn dc, .int .i64 0, .int .u8 (x : Int)] w1 fun e w' => e = .returned (.bool true) ∧ Below w1.heap.size w1 w') := fun w1 Ds b dn dc L x h1 h3 h4 h5 h6 => by
    have := lasts5_any b dn dc L x h5 w1 h1 (by rw [← devs_length, h3, h4])
    rw [h3, h6] at this; exact this
  go_enter Try.func15, Try.ntmps15
  go_wp2_with fail
  refine (CT.out _).mono ?_
  rintro e w1 ⟨b1, n1, c1, L1, rfl, r1, d1, bl1⟩
  have R1 := Lib.hid r1
  have D1 := Lib.hid d1
  have B1 := Lib.hid bl1
  clear r1 d1 bl1
  go_wp2_with fail
  refine (CS.out _).mono ?_
  rintro e w2 ⟨a2, n2, c2, M2, rfl, r2, d2, bl2⟩
  have R1 := Lib.hid (R1.out.here bl2)
  have R2 := Lib.hid r2
  have D2 := Lib.hid d2
  have B2 := Lib.hid (thence B1.out bl2 (Nat.le_refl _))
  clear r2 d2 bl2
  go_wp2_with fail
  refine (CR1.out _ _ _ _ _ _ _ _ _ R1.out R2.out D1.out D2.out).mono ?_
  rintro e w3 ⟨v3, rfl, ⟨a3, n3, c3, L3, rfl, r3, d3, -⟩, bl3⟩
  have R3 := Lib.hid (r3.mono (Nat.zero_le _) (Nat.le_refl _))
  have D3 := Lib.hid d3
  have B3 := Lib.hid (thence B2.out bl3 (Nat.le_refl _))
  clear r3 d3 bl3 R1 R2 D1 D2 B1 B2
  go_wp2_with fail
  refine (CW1.out _ _ _ _ _ R3.out D3.out).mono ?_
  rintro e w4 ⟨rfl, bl4⟩
  have R3 := Lib.hid (R3.out.here bl4)
  have B4 := Lib.hid (thence B3.out bl4 (Nat.le_refl _))
  clear bl4 B3
  go_wp2_with fail
  refine (CT.out _).mono ?_
  rintro e w5 ⟨b5, n5, c5, L5, rfl, r5, d5, bl5⟩
  have R5 := Lib.hid r5
  have D5 := Lib.hid d5
  have R3 := Lib.hid (R3.out.here bl5)
  have B5 := Lib.hid (thence B4.out bl5 (Nat.le_refl _))
  clear r5 d5 bl5 B4
  go_wp2_with fail
  refine (CS.out _).mono ?_
  rintro e w6 ⟨a6, n6, c6, M6, rfl, r6, d6, bl6⟩
  have R5 := Lib.hid (R5.out.here bl6)
  have R3 := Lib.hid (R3.out.here bl6)
  have R6 := Lib.hid r6
  have D6 := Lib.hid d6
  have B6 := Lib.hid (thence B5.out bl6 (Nat.le_refl _))
  clear r6 d6 bl6 B5
  go_wp2_with fail
  refine (CR2.out _ _ _ _ _ _ _ _ _ R5.out R6.out D5.out D6.out).mono ?_
  rintro e w7 ⟨v7, rfl, ⟨a7, n7, c7, L7, rfl, r7, d7, -⟩, bl7⟩
  have R7 := Lib.hid (r7.mono (Nat.zero_le _) (Nat.le_refl _))
  have D7 := Lib.hid d7
  have R3 := Lib.hid (R3.out.here bl7)
  have B7 := Lib.hid (thence B6.out bl7 (Nat.le_refl _))
  clear r7 d7 bl7 R5 R6 D5 D6 B6
  go_wp2_with fail
  refine (CW2.out _ _ _ _ _ R7.out D7.out).mono ?_
  rintro e w8 ⟨rfl, bl8⟩
  have R3 := Lib.hid (R3.out.here bl8)
  have R7 := Lib.hid (R7.out.here bl8)
  have B8 := Lib.hid (thence B7.out bl8 (Nat.le_refl _))
  clear bl8 B7
  go_wp2_with fail
  have ha1 : Below w8.heap.size w8 (w8.alloc (.cells #[.bool true] 4)) := (Below.refl _ _).alloc (Nat.le_refl _) _
  have R3 := Lib.hid (R3.out.here ha1)
  have R7 := Lib.hid (R7.out.here ha1)
  have B8 := Lib.hid (thence B8.out ha1 (Nat.le_refl _))
  have K1 := Lib.hid (Rg.lit (K := kBool) [true] w8 4 (by simp) (fun _ _ => trivial))
  clear ha1
  refine (CC.out _ _ _ _ _ _ _ _ _ R3.out K1.out D3.out alive_c1).mono ?_
  rintro e w9 ⟨v9, rfl, ⟨a9, n9, c9, L9, rfl, r9, d9, -⟩, bl9⟩
  have R9 := Lib.hid (r9.mono (Nat.zero_le _) (Nat.le_refl _))
  have D9 := Lib.hid d9
  have R3 := Lib.hid (R3.out.here bl9)
  have R7 := Lib.hid (R7.out.here bl9)
  have B9 := Lib.hid (thence B8.out bl9 (Nat.le_refl _))
  clear r9 d9 bl9 B8 K1
  go_wp2_with fail
  have ha2 : Below w9.heap.size w9 (w9.alloc (.cells #[.bool false] 4)) := (Below.refl _ _).alloc (Nat.le_refl _) _
  have R3 := Lib.hid (R3.out.here ha2)
  have R7 := Lib.hid (R7.out.here ha2)
  have R9 := Lib.hid (R9.out.here ha2)
  have B9 := Lib.hid (thence B9.out ha2 (Nat.le_refl _))
  have K1 := Lib.hid (Rg.lit (K := kBool) [false] w9 4 (by simp) (fun _ _ => trivial))
  clear ha2
  refine (CC.out _ _ _ _ _ _ _ _ _ R3.out K1.out D3.out alive_c2).mono ?_
  rintro e w10 ⟨v10, rfl, ⟨a10, n10, c10, L10, rfl, r10, d10, -⟩, bl10⟩
  have R10 := Lib.hid (r10.mono (Nat.zero_le _) (Nat.le_refl _))
  have D10 := Lib.hid d10
  have R3 := Lib.hid (R3.out.here bl10)
  have R7 := Lib.hid (R7.out.here bl10)
  have R9 := Lib.hid (R9.out.here bl10)
  have B10 := Lib.hid (thence B9.out bl10 (Nat.le_refl _))
  clear r10 d10 bl10 B9 K1
  go_wp2_with fail
  refine (CC.out _ _ _ _ _ _ _ _ _ R3.out (rg_nil _ _ _ _) D3.out alive_c3).mono ?_
  rintro e w11 ⟨v11, rfl, ⟨a11, n11, c11, L11, rfl, r11, d11, -⟩, bl11⟩
  have R11 := Lib.hid (r11.mono (Nat.zero_le _) (Nat.le_refl _))
  have D11 := Lib.hid d11
  have R7 := Lib.hid (R7.out.here bl11)
  have R9 := Lib.hid (R9.out.here bl11)
  have R10 := Lib.hid (R10.out.here bl11)
  have B11 := Lib.hid (thence B10.out bl11 (Nat.le_refl _))
  clear r11 d11 bl11 R3 B10
  go_wp2_with fail
  refine (CL.out _ _ _ _ _ _ 120 R7.out D7.out rfl (by omega) alive_tb).mono ?_
  rintro e w12 ⟨rfl, bl12⟩
  have R9 := Lib.hid (R9.out.here bl12)
  have R10 := Lib.hid (R10.out.here bl12)
  have R11 := Lib.hid (R11.out.here bl12)
  have B12 := Lib.hid (thence B11.out bl12 (Nat.le_refl _))
  clear bl12 R7 B11
  go_wp2_with fail
  refine (CL.out _ _ _ _ _ _ 120 R9.out D9.out rfl (by omega) alive_t1).mono ?_
  rintro e w13 ⟨rfl, bl13⟩
  have R10 := Lib.hid (R10.out.here bl13)
  have R11 := Lib.hid (R11.out.here bl13)
  have B13 := Lib.hid (thence B12.out bl13 (Nat.le_refl _))
  clear bl13 R9 B12
  go_wp2_with fail
  refine (CL.out _ _ _ _ _ _ 0 R10.out D10.out rfl (by omega) alive_t2).mono ?_
  rintro e w14 ⟨rfl, bl14⟩
  have R11 := Lib.hid (R11.out.here bl14)
  have B14 := Lib.hid (thence B13.out bl14 (Nat.le_refl _))
  clear bl14 R10 B13
  go_wp2_with fail
  refine (CL.out _ _ _ _ _ _ 0 R11.out D11.out rfl (by omega) alive_t3).mono ?_
  rintro e w15 ⟨rfl, bl15⟩
  have B15 := Lib.hid (thence B14.out bl15 (Nat.le_refl _))
  clear bl15 B14
  go_wp2_with fail
  go_ret
  exact ⟨rfl, B15.out⟩
end Go.Proofs.Ytnhfkfihlkbkfaa.PW
