/-
  Contracts of layer 4: new devices, dead ones; the program's and the document's own.
-/
import Derived.Test.YtnhfkfihlkbkfaaDiskCodes
namespace Go.Proofs.Ytnhfkfihlkbkfaa.PW
open Go.RowKit
open DK (Dv)
set_option linter.unusedVariables false
set_option maxRecDepth 100000

/-- 'make([][]byte, n)': a new row of no slices. -/
theorem made_rows (n : Nat) : madeCells (Value.slice none 0 0).cells (n * 1) = ((List.replicate n Hd.nil).map Hd.val).toArray := by
  apply Array.toList_inj.1
  have hc : (Value.slice none 0 0).cells = #[Value.slice none 0 0] := rfl
  simp only [madeCells, hc]
  apply List.ext_getElem
  · simp
  · intro i h1 h2
    simp [Nat.mod_one, Hd.val, Hd.nil]
theorem run_make_rows (w : World) (n : Nat) (hn : n ≤ 1000000) :
    (Instr.makeSlice 34 (.int .i64 n) (.int .i64 n)).run Try.prog w = .ok (.slice (some ⟨w.heap.size, 0, none⟩) n n) (w.alloc (.cells ((List.replicate n Hd.nil).map Hd.val).toArray 31)) := by
  obtain ⟨i, hi, hz0, hz1, hz2⟩ := info_parts slice_info
  have := run_make (P := Try.prog) w 34 31 i (.slice none 0 0) Try.underlying34 hi hz0 .i64 .i64 n n (by omega) (Int.le_refl _) (by rw [hz2]; omega) (by omega)
  rw [hz1] at this
  simp only [Int.toNat_natCast] at this
  rw [this, made_rows]
/-- A device of so many blocks, all none. -/
theorem made_dev (lo : Nat) (w : World) (n : Nat) (dd : Bool) (hlo : lo ≤ w.heap.size) (hn : n ≤ 1000000) :
    OwnDev lo (w.alloc (.cells ((List.replicate n Hd.nil).map Hd.val).toArray 31)) (.agg #[.slice (some ⟨w.heap.size, 0, none⟩) n n, .slice none 0 0, .bool dd]) ⟨List.replicate n [], [], dd⟩ := by
  refine ⟨_, _, List.replicate n Hd.nil, [], rfl, ⟨?_, fun z hz => ?_, fun z hz x hx hl => ?_⟩, GrowW.nil _ _, ?_, rfl, ?_⟩
  · refine ⟨by simp, .inr ⟨w.heap.size, n, _, by simp, hlo, heap_alloc_new _ _, by simp, by unfold maxLen; omega, by simp, ?_⟩⟩
    rw [List.length_replicate, Nat.mul_one, List.take_of_length_le (by simp)]
  · obtain rfl := (List.mem_replicate.1 hz).2
    exact ⟨rd_nil _ _, .inl rfl⟩
  · obtain rfl := (List.mem_replicate.1 hz).2
    exact absurd rfl hl
  · show lists (List.replicate n Hd.nil) = List.replicate n []
    unfold lists
    rw [List.map_replicate]
    rfl
  · refine ⟨fun k h1 h2 => (by cases h2), fun z hz x hx hl => ?_, fun _ h => nomatch h⟩
    obtain rfl := (List.mem_replicate.1 hz).2
    exact absurd rfl hl

theorem OwnDev.setCell {lo : Nat} {w : World} {v : Value} {D : Dv} (h : OwnDev lo w v D) (p : Addr) (hp : p.block < lo) (u : Value) : OwnDev lo (w.setCell p u) v D := by
  obtain ⟨vb, vw, H, K, rfl, g1, g2, h3, h4, hc⟩ := h.ex
  exact ⟨vb, vw, H, K, rfl, g1.setCell p hp u, g2.setCell p hp u, h3, h4, hc⟩
def newCode (n : Int) : Nat := if 1 ≤ n ∧ n ≤ 256 then 0 else 2
def newDev (n : Int) : Dv := if 1 ≤ n ∧ n ≤ 256 then DK.fresh n.toNat else DK.Dv.nil

set_option maxRecDepth 100000 in
theorem new_any (n : Int) (w : World) :
    Calls Try.prog 35 #[.int .i64 n] w (NewDev w (newDev n) (newCode n)) := by
  by_cases h : 1 ≤ n ∧ n ≤ 256
  · obtain ⟨h1, h2⟩ := h
    obtain ⟨k, rfl⟩ := Int.eq_ofNat_of_zero_le (show 0 ≤ n by omega)
    have hk : k ≤ 256 := by omega
    have hk1 : 1 ≤ k := by omega
    have hc : newCode (k : Int) = 0 := by simp [newCode]; omega
    have hd : newDev (k : Int) = DK.fresh k := by simp [newDev]; omega
    rw [hc, hd]
    have hb0 : Below w.heap.size w (w.alloc (.cells #[.slice (some ⟨w.heap.size + 1, 0, none⟩) k k, .slice none 0 0, .bool false] 37)) := (Below.refl _ _).alloc (Nat.le_refl _) _
    have hb1 := hb0.alloc hb0.size (.cells ((List.replicate k Hd.nil).map Hd.val).toArray 31)
    have hm := made_dev w.heap.size (w.alloc (.cells #[.slice (some ⟨w.heap.size + 1, 0, none⟩) k k, .slice none 0 0, .bool false] 37)) k false (by simp) (by omega)
    have hrun := run_make_rows (w.alloc (.cells #[.slice none 0 0, .slice none 0 0, .bool false] 37)) k (by omega)
    simp only [World.size_alloc] at hm hrun
    generalize ((List.replicate k Hd.nil).map Hd.val).toArray = A at *
    have HM := Lib.hid hm
    have HB := Lib.hid hb1
    have i1 : ¬ ((k : Int) < 1) := by omega
    have i2 : ¬ ((256 : Int) < (k : Int)) := by omega
    clear hm hb0 hb1 hc hd
    go_enter Try.func35, Try.ntmps35
    go_wp2_with fail
    exact bodyPost_ret (v := .tuple #[.agg #[.slice (some ⟨w.heap.size + 1, 0, none⟩) k k, .slice none 0 0, .bool false], .int .i64 0]) (by simp [results, Try.results35, go_sem]) rfl ⟨_, rfl, HM.out, HB.out⟩
  · have hc : newCode n = 2 := by simp only [newCode, if_neg h]
    have hd : newDev n = DK.Dv.nil := by simp only [newDev, if_neg h]
    rw [hc, hd]
    have hb0 : Below w.heap.size w (w.alloc (.cells #[.slice none 0 0, .slice none 0 0, .bool false] 37)) := (Below.refl _ _).alloc (Nat.le_refl _) _
    have HB := Lib.hid hb0
    clear hb0 hc hd
    by_cases h1 : n < 1
    · clear h
      go_enter Try.func35, Try.ntmps35
      go_wp2_with fail
      exact bodyPost_ret (v := .tuple #[noDev, .int .i64 2]) (by simp [results, Try.results35, go_sem, noDev]) rfl ⟨_, rfl, OwnDev.nil _ _, by first | exact HB.out | exact ((HB.out.setCell (p := ⟨w.heap.size, 0, none⟩) (Nat.le_refl _) _).setCell (p := ⟨w.heap.size, 1, none⟩) (Nat.le_refl _) _).setCell (p := ⟨w.heap.size, 2, none⟩) (Nat.le_refl _) _⟩
    · have h2 : n > 256 := by omega
      clear h
      go_enter Try.func35, Try.ntmps35
      go_wp2_with fail
      exact bodyPost_ret (v := .tuple #[noDev, .int .i64 2]) (by simp [results, Try.results35, go_sem, noDev]) rfl ⟨_, rfl, OwnDev.nil _ _, by first | exact HB.out | exact ((HB.out.setCell (p := ⟨w.heap.size, 0, none⟩) (Nat.le_refl _) _).setCell (p := ⟨w.heap.size, 1, none⟩) (Nat.le_refl _) _).setCell (p := ⟨w.heap.size, 2, none⟩) (Nat.le_refl _) _⟩

def killDev (D : Dv) : Dv := if DK.may D = true then DK.killed D else DK.Dv.nil

set_option maxRecDepth 100000 in
theorem kill_any (a : Option Addr) (n c : Nat) (a' : Option Addr) (n' c' : Nat) (D : Dv) (w : World) (hr : DevAt w.heap.size w a n c a' n' c' D) :
    Calls Try.prog 14 #[.agg #[.slice a n c, .slice a' n' c', .bool D.dead]] w (NewDev w (killDev D) (DK.kcode D)) := by
  have hb1 : Below w.heap.size w ((w.alloc (.cells #[.slice a n c, .slice a' n' c', .bool D.dead] 37)).alloc (.cells #[.slice none 0 0, .slice none 0 0, .bool false] 37)) := ((Below.refl _ _).alloc (Nat.le_refl _) _).alloc (by simp) _
  have bD := (Bx.new w [.slice a n c, .slice a' n' c', .bool D.dead] 37).alloc (.cells #[.slice none 0 0, .slice none 0 0, .bool false] 37)
  have bR := Bx.new (w.alloc (.cells #[.slice a n c, .slice a' n' c', .bool D.dead] 37)) [.slice none 0 0, .slice none 0 0, .bool false] 37
  simp only [World.size_alloc] at bR
  have CK := Lib.hid (check_any a n c a' n' c' D _ (hr.here hb1))
  have HB := Lib.hid hb1
  have BD := Lib.hid bD
  have BR := Lib.hid bR
  have Hn := Lib.hid hr.long.1
  have hs := hr.small.1
  unfold maxLen at hs
  clear hb1 bD bR hr
  rcases Bool.eq_false_or_eq_true (DK.may D) with hm | hm
  · have hn256 : n ≤ 256 := by have := (DK.may_iff.1 hm).2.1; have := Hn.out; omega
    have hk : DK.kcode D = 0 := kcode_may hm
    have hd : killDev D = ⟨List.replicate n [], [], true⟩ := by rw [killDev, hm, Hn.out]; rfl
    rw [hk, hd]
    rw [kcode_may hm] at CK
    clear hk hd hm Hn
    generalize D.dead = dd at *
    go_enter Try.func14, Try.ntmps14
    go_wp2_with fail
    refine CK.out.mono ?_
    rintro e w1 ⟨rfl, b1⟩
    obtain ⟨c0, c1, c2⟩ := (BD.out.here b1).three
    have bR := BR.out.here b1
    have hm := made_dev w1.heap.size (((w1.setCell ⟨w.heap.size + 1, 0, none⟩ (.slice (some ⟨w1.heap.size, 0, none⟩) n n)).setCell ⟨w.heap.size + 1, 1, none⟩ (.slice none 0 0)).setCell ⟨w.heap.size + 1, 2, none⟩ (.bool true)) n true (by simp) (by omega)
    have hrun := run_make_rows w1 n (by omega)
    have hB := thence HB.out b1 (Nat.le_refl _)
    have hl := bR.lt
    obtain ⟨q0, q1, q2⟩ := bR.three
    have f0 := bR.frozen 0
    have f1 := bR.frozen 1
    have f2 := bR.frozen 2
    generalize ((List.replicate n Hd.nil).map Hd.val).toArray = A at *
    have HM := Lib.hid hm
    have HB' := Lib.hid hB
    have BR' := Lib.hid bR
    clear hm hB b1 bR
    go_wp2_with fail
    have z' := ((BR'.out.set 0 (.slice (some ⟨w1.heap.size, 0, none⟩) n n)).set 1 (.slice none 0 0)).set 2 (.bool true)
    have hb4 := ((HB'.out.setCell (p := ⟨w.heap.size + 1, 0, none⟩) (Nat.le_succ _) (.slice (some ⟨w1.heap.size, 0, none⟩) n n)).setCell (p := ⟨w.heap.size + 1, 1, none⟩) (Nat.le_succ _) (.slice none 0 0)).setCell (p := ⟨w.heap.size + 1, 2, none⟩) (Nat.le_succ _) (.bool true)
    have hd := HM.out
    have hsz : (((w1.setCell ⟨w.heap.size + 1, 0, none⟩ (.slice (some ⟨w1.heap.size, 0, none⟩) n n)).setCell ⟨w.heap.size + 1, 1, none⟩ (.slice none 0 0)).setCell ⟨w.heap.size + 1, 2, none⟩ (.bool true)).heap.size = w1.heap.size := by simp
    rw [hsz] at hd
    generalize ((w1.setCell ⟨w.heap.size + 1, 0, none⟩ (.slice (some ⟨w1.heap.size, 0, none⟩) n n)).setCell ⟨w.heap.size + 1, 1, none⟩ (.slice none 0 0)).setCell ⟨w.heap.size + 1, 2, none⟩ (.bool true) = W4 at *
    have y := z'.alloc (.cells A 31)
    obtain ⟨z0, z1, z2⟩ := y.three
    exact bodyPost_ret (v := .tuple #[.agg #[.slice (some ⟨w1.heap.size, 0, none⟩) n n, .slice none 0 0, .bool true], .int .i64 0]) (by simp [results, Try.results14, go_sem, z0, z1, z2]) rfl ⟨_, rfl, hd.mono (by omega), hb4.alloc (by omega) _⟩
  · have hk : DK.kcode D = 8 := kcode_no hm
    have hd : killDev D = DK.Dv.nil := by rw [killDev, hm]; rfl
    rw [hk, hd]
    rw [kcode_no hm] at CK
    clear hk hd hm Hn
    generalize D.dead = dd at *
    go_enter Try.func14, Try.ntmps14
    go_wp2_with fail
    refine CK.out.mono ?_
    rintro e w1 ⟨rfl, b1⟩
    have bR := BR.out.here b1
    have hB := thence HB.out b1 (Nat.le_refl _)
    have hl := bR.lt
    obtain ⟨q0, q1, q2⟩ := bR.three
    have f0 := bR.frozen 0
    have f1 := bR.frozen 1
    have f2 := bR.frozen 2
    have HB' := Lib.hid hB
    have BR' := Lib.hid bR
    clear hB b1 bR
    go_wp2_with fail
    have z := ((BR'.out.set 0 (.slice none 0 0)).set 1 (.slice none 0 0)).set 2 (.bool false)
    obtain ⟨z0, z1, z2⟩ := z.three
    exact bodyPost_ret (v := .tuple #[noDev, .int .i64 8]) (by simp [results, Try.results14, go_sem, noDev, z0, z1, z2]) rfl
      ⟨_, rfl, OwnDev.nil _ _, ((HB'.out.setCell (p := ⟨w.heap.size + 1, 0, none⟩) (Nat.le_succ _) _).setCell (p := ⟨w.heap.size + 1, 1, none⟩) (Nat.le_succ _) _).setCell (p := ⟨w.heap.size + 1, 2, none⟩) (Nat.le_succ _) _⟩

end Go.Proofs.Ytnhfkfihlkbkfaa.PW
