/-
  Contracts of layer 4: a write that lasts; the document's own.
-/
import Derived.Test.YtiphpgfjfmlbjaaDiskSure
import Derived.Test.YtiphpgfjfmlbjaaDiskFua
namespace Go.Proofs.Ytiphpgfjfmlbjaa.PW
open Go.RowKit
open DK (Dv)
set_option linter.unusedVariables false
set_option linter.unusedSimpArgs false

def rfuaD (D : Dv) (at_ : Int) (l : List Nat) : Dv := if DK.wcode D at_ l = 0 then rsure D at_ l else DK.Dv.nil

set_option maxRecDepth 100000 in
set_option maxHeartbeats 1000000 in
theorem refFua_any (a : Option Addr) (n c : Nat) (a' : Option Addr) (n' c' : Nat) (D : Dv) (at_ : Int) (b : Option Addr) (len cap : Nat) (l : List Nat) (w : World) (hr : DevAt w.heap.size w a n c a' n' c' D) (hf : Fit D) (hq : Rd w.heap.size w b len cap l) (hll : l.length ≤ 100000) :
    Calls Try.prog 29 #[.agg #[.slice a n c, .slice a' n' c', .bool D.dead], .int .i64 at_, .slice b len cap] w (NewDev w (rfuaD D at_ l) (DK.wcode D at_ l)) := by
  have hb1 : Below w.heap.size w ((w.alloc (.cells #[.slice a n c, .slice a' n' c', .bool D.dead] 25)).alloc (.cells #[.slice none 0 0, .slice none 0 0, .bool false] 25)) := ((Below.refl _ _).alloc (Nat.le_refl _) _).alloc (by simp) _
  have bD := (Bx.new w [.slice a n c, .slice a' n' c', .bool D.dead] 25).alloc (.cells #[.slice none 0 0, .slice none 0 0, .bool false] 25)
  have bR := Bx.new (w.alloc (.cells #[.slice a n c, .slice a' n' c', .bool D.dead] 25)) [.slice none 0 0, .slice none 0 0, .bool false] 25
  simp only [World.size_alloc] at bR
  have lsm : len ≤ maxLen := Nat.le_trans (by have := hq.long; have := hq.fits; omega) hq.small
  have CK := Lib.hid (written_any a n c a' n' c' D at_ b len cap l _ (hr.here hb1) hq.long lsm)
  have CM : Hid (DK.wcode D at_ l = 0 → ∀ w1, Below w.heap.size w w1 → Calls Try.prog 56 #[.agg #[.slice a n c, .slice a' n' c', .bool D.dead], .int .i64 at_, .slice b len cap] w1 (TheDev w1 (rsure D at_ l))) := fun h0 w1 h => refSure_any a n c a' n' c' D at_ b len cap l w1 (hr.here h) hf (hq.here h) hll (has_of_wcode h0)
  have HB := Lib.hid hb1
  have BD := Lib.hid bD
  have BR := Lib.hid bR
  have Hn := Lib.hid hr.long.2
  have hs := hr.small.2
  unfold maxLen at hs
  clear hb1 bD bR hr hf hq hll lsm
  by_cases h0 : DK.wcode D at_ l = 0
  case neg =>
    have hk : DK.wcode D at_ l = DK.wcode D at_ l := by simp [h0, h0]
    have hd : rfuaD D at_ l = DK.Dv.nil := by simp [rfuaD, hk, h0]
    rw [hk, hd]
    have e0 : ((DK.wcode D at_ l : Int) == 0) = false := by rw [beq_eq_false_iff_ne]; omega
    clear hk hd h0 Hn CM
    generalize DK.wcode D at_ l = q at *
    generalize D.dead = dd at *
    go_enter Try.func29, Try.ntmps29
    go_wp2_with fail
    refine CK.out.mono ?_
    rintro e w1 ⟨rfl, b1⟩
    have bR := BR.out.here b1
    have hB := thence HB.out b1 (Nat.le_refl _)
    obtain ⟨q0, q1, q2⟩ := bR.three
    have f0 := bR.frozen 0
    have f1 := bR.frozen 1
    have f2 := bR.frozen 2
    have FIN := Lib.hid (no_dev_end _ _ _ bR hB (Nat.le_succ _))
    clear hB b1 bR
    go_wp2_with fail
    obtain ⟨z0, z1, z2⟩ := FIN.out.1.three
    exact bodyPost_ret (v := .tuple #[noDev, .int .i64 (q : Int)]) (by simp [results, Try.results29, go_sem, noDev, z0, z1, z2]) rfl ⟨_, rfl, OwnDev.nil _ _, FIN.out.2⟩
  have CM1 := Lib.hid (CM.out h0)
  rw [h0] at CK
  clear CM
  by_cases h9 : True
  · have hk : DK.wcode D at_ l = 0 := h0
    have hd : rfuaD D at_ l = rsure D at_ l := by simp [rfuaD, hk]
    rw [hk, hd]
    clear hk hd h0 Hn
    generalize D.dead = dd at *
    go_enter Try.func29, Try.ntmps29
    go_wp2_with fail
    refine CK.out.mono ?_
    rintro e w1 ⟨rfl, b1⟩
    have bR := BR.out.here b1
    have hB := thence HB.out b1 (Nat.le_refl _)
    obtain ⟨d0, d1, d2⟩ := (BD.out.here b1).three
    have CM2 := Lib.hid (CM1.out _ hB)
    have BR1 := Lib.hid bR
    have HB1 := Lib.hid hB
    clear hB b1 bR CK CM1
    go_wp2_with fail
    refine CM2.out.mono ?_
    rintro e w2 ⟨v, rfl, od, b2⟩
    obtain ⟨x1, y1, u1, x2, y2, u2, hv, _⟩ := od.at
    have OD := Lib.hid od
    have hl := BR1.out.lt
    rw [hv] at OD
    rw [hv]
    clear od hv
    generalize (rsure D at_ l).dead = ee at *
    have bR := BR1.out.here b2
    obtain ⟨q0, q1, q2⟩ := bR.three
    have f0 := bR.frozen 0
    have f1 := bR.frozen 1
    have f2 := bR.frozen 2
    have BR2 := Lib.hid bR
    have HB2 := Lib.hid (thence HB1.out b2 (Nat.le_refl _))
    clear bR b2
    go_wp2_with fail
    have z := ((BR2.out.set 0 (.slice x1 y1 u1)).set 1 (.slice x2 y2 u2)).set 2 (.bool ee)
    obtain ⟨z0, z1, z2⟩ := z.three
    exact bodyPost_ret (v := .tuple #[.agg #[.slice x1 y1 u1, .slice x2 y2 u2, .bool ee], .int .i64 0]) (by simp [results, Try.results29, go_sem, z0, z1, z2]) rfl
      ⟨_, rfl, (((OD.out.setCell ⟨w.heap.size + 1, 0, none⟩ hl _).setCell ⟨w.heap.size + 1, 1, none⟩ hl _).setCell ⟨w.heap.size + 1, 2, none⟩ hl _).mono (by omega),
        ((HB2.out.setCell (p := ⟨w.heap.size + 1, 0, none⟩) (Nat.le_succ _) _).setCell (p := ⟨w.heap.size + 1, 1, none⟩) (Nat.le_succ _) _).setCell (p := ⟨w.heap.size + 1, 2, none⟩) (Nat.le_succ _) _⟩
  · exact absurd trivial h9
end Go.Proofs.Ytiphpgfjfmlbjaa.PW
