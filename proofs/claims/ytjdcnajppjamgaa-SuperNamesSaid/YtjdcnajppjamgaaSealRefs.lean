/-
  The document's own answers of blocks that end in their sum (freeboardref09.Sealed, Four, Number), which the layers of labels, supers and notes stand on.
-/
import Derived.Test.YtjdcnajppjamgaaRefSum
import Derived.Test.YtjdcnajppjamgaaRefNums
import Derived.Test.YtjdcnajppjamgaaSealMath
namespace Go.Proofs.Ytjdcnajppjamgaa.PW
open Go.RowKit
set_option linter.unusedVariables false
set_option linter.unusedSimpArgs false
set_option maxRecDepth 100000

theorem four_bytes (n : Nat) : Bytes (PM.own4 (n % 4294967296)) := SL.own4_bytes (Nat.mod_lt _ (by decide))
theorem refFour_any (n : Nat) (w : World) (hn : n < 4294967296) :
    Calls Try.prog 37 #[.int .u32 (n : Int)] w fun e w' => ∃ b, e = .returned (.slice b 4 4) ∧ Rd w'.heap.size w' b 4 4 (PM.own4 n) ∧ Below w.heap.size w w' := by
  go_enter Try.func37, Try.ntmps37
  go_wp2
  go_ret
  refine ⟨_, rfl, rd_lit w (PM.own4 n) _ 4 4 _ rfl rfl ?_ (SL.own4_bytes hn) (by show 4 ≤ maxLen; unfold maxLen; decide), (Below.refl _ _).alloc (Nat.le_refl _) _⟩
  simp [PM.own4]

theorem refNumber_any (a : Option Addr) (len cap : Nat) (l : List Nat) (p T : Nat) (w : World) (hr : Rd w.heap.size w a len cap l) (h : NumAt l p 4) (hT : T = PK.tv (PK.wh l) p 4) :
    Calls Try.prog 28 #[.slice a len cap, .int .i64 p] w fun e w' => e = .returned (.int .u32 (T : Int)) ∧ Below w.heap.size w w' := by
  have C := Lib.hid (refat_any a len cap l p 4 T w hr h hT)
  have hb : T < 4294967296 := by rw [hT]; exact PK.tv_lt (PK.wh_bytes hr.byt) p 4
  clear hT
  go_enter Try.func28, Try.ntmps28
  go_wp2_with fail
  refine C.out.mono ?_
  rintro e w1 ⟨rfl, b1⟩
  have e1 : IntKind.u32.wrap (T : Int) = (T : Int) := by rw [IntKind.wrap_u32']; omega
  go_wp2_with fail
  go_ret
  exact ⟨rfl, b1⟩

set_option maxHeartbeats 1000000 in
theorem refSealed_any (a : Option Addr) (len cap : Nat) (l : List Nat) (w : World) (hr : Rd w.heap.size w a len cap l) (hl : l.length ≤ 124) :
    Calls Try.prog 38 #[.slice a len cap] w fun e w' => ∃ g, e = .returned (.slice (some ⟨g, 0, none⟩) 128 128) ∧ w.heap.size ≤ g ∧ Blk w' g (SL.sld l) ∧ Below w.heap.size w w' := by
  have CW := Lib.hid (refwhole_any a len cap l w (by omega) hr)
  have HL : Hid ((PK.wh l).length = 128) := PK.wh_length (by omega)
  have HB : Hid (Bytes (PK.wh l)) := PK.wh_bytes hr.byt
  have HS : Hid (SL.sld l = PK.pk (PK.wh (PK.wh l)) 124 (PM.over 0 ((PK.wh l).take 124)) 4) := by show _ = _; rw [PK.wh_full HL.out]; rfl
  rw [HS.out]
  clear HS
  generalize PK.wh l = m at *
  have ho := PM.over_lt 0 (m.take 124)
  obtain ⟨s, hs⟩ : ∃ s, s = PM.over 0 (m.take 124) := ⟨_, rfl⟩
  rw [← hs] at ho ⊢
  have HSS := Lib.hid hs
  clear hs
  go_enter Try.func38, Try.ntmps38
  go_wp2_with fail
  (with_reducible refine CW.out.mono ?_)
  rintro e w1 ⟨g, rfl, hg, hblk, b1⟩
  have HK := Lib.hid hblk
  have HG := Lib.hid hg
  have B1 := Lib.hid b1
  clear hblk hg b1
  have R1 := Lib.hid (HK.out.rd HL.out HB.out)
  have CS : Hid (Calls Try.prog 58 #[.slice (some ⟨g, 0, none⟩) 124 128] w1 fun e w' => e = .returned (.int .u32 (s : Nat)) ∧ w' = w1) := by rw [HSS.out]; exact refsum_any (some ⟨g, 0, none⟩) 124 128 (m.take 124) w1 (R1.out.take 124 (by omega))
  have CT := Lib.hid (refwith_any (some ⟨g, 0, none⟩) 128 128 m 124 4 s w1 R1.out ⟨.inr HL.out, by decide, by decide, by decide, by decide⟩ ho)
  go_wp2_with fail
  (with_reducible refine CS.out.mono ?_)
  rintro e w2 ⟨rfl, rfl⟩
  go_wp2_with fail
  refine CT.out.mono ?_
  rintro e w3 ⟨g3, rfl, hg3, hblk3, b3⟩
  go_wp2_with fail
  go_ret
  exact ⟨g3, rfl, Nat.le_trans B1.out.size hg3, hblk3, thence B1.out b3 (Nat.le_refl _)⟩
end Go.Proofs.Ytjdcnajppjamgaa.PW
