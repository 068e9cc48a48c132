/-
  Contracts of layer 3's function: its three ways.
-/
import Derived.Test.YticojepedpionaaBlocks
import Derived.Test.YticojepedpionaaBlock128
import Derived.Test.YticojepedpionaaFoldMath
import Derived.WalkMore
import Derived.Deep.LoopGhost
namespace Go.Proofs.Yticojepedpionaa.PW
open Go.RowKit
set_option linter.unusedVariables false

theorem xor8 (a b : Nat) (ha : a < 256) (hb : b < 256) : bits .xor .u8 (a : Int) (b : Int) = ((a ^^^ b : Nat) : Int) := u8_xor_nat a b ha hb

theorem fold_many (a : Option Addr) (len cap : Nat) (H : List Hd) (w : World) {B : Nat} (hr : Rds B w a len cap H) (hm : 16 < H.length) :
    Calls Try.prog 10 #[.slice a len cap] w fun e w' => e = .returned (.tuple #[.slice none 0 0, .int .i64 4]) ∧ w = w' := by
  obtain rfl := hr.long
  have h1 := hr.small
  have h2 := hr.fits
  unfold maxLen at h1
  clear hr
  generalize H.length = n at *
  go_enter Try.func10, Try.ntmps10
  go_wp2
  go_step3
  go_wp2
  try rw [Exit.noGoto_ret]
  go_ret2
  exact ⟨rfl, rfl⟩

/-- What a call answers: the fold in a new block, or an error and no block. -/
def Folded (w : World) (L : List (List Nat)) (e : Ending) (w' : World) : Prop :=
  (FO.code L = 0 ∧ NewBlk w (FO.fold L) e w') ∨ (FO.code L ≠ 0 ∧ e = .returned (.tuple #[.slice none 0 0, .int .i64 (FO.code L : Nat)]) ∧ Below w.heap.size w w')

set_option maxHeartbeats 1000000 in
set_option maxRecDepth 100000 in
theorem fold_few (a : Option Addr) (len cap : Nat) (H : List Hd) (w : World) (hr : Rds w.heap.size w a len cap H) (hm : H.length ≤ 16) :
    Calls Try.prog 10 #[.slice a len cap] w (Folded w (lists H)) := by
  obtain rfl := hr.long
  obtain ⟨Z, HZ, hZl, hz⟩ := zero128'
  have hby : FO.bytes (lists H) := hr.bytes
  have HL := Lib.hid (lists_length H)
  have Hby := Lib.hid hby
  have Hr := Lib.hid hr
  have Hgt := Lib.hid (lists_getD H)
  clear hby hr hZl
  generalize lists H = L at *
  generalize hn : H.length = n at *
  have Hn := Lib.hid hn
  clear hn
  go_enter Try.func10, Try.ntmps10
  go_wp2
  go_step3
  go_wp2
  go_step3
  go_wp2
  have hblk : Blk (w.alloc (.cells (Z.map bv).toArray 39)) w.heap.size (FO.fold (L.take 0)) := by
    rw [List.take_zero, FO.fold_nil, ← HZ.out]; exact Blk.alloc w Z _
  have hbel : Below w.heap.size w (w.alloc (.cells (Z.map bv).toArray 39)) := (Below.refl _ w).alloc (Nat.le_refl _) _
  have hgg : w.heap.size ≤ w.heap.size := Nat.le_refl _
  generalize w.alloc (.cells (Z.map bv).toArray 39) = w1 at *
  generalize hgB : w.heap.size = g at hblk hgg ⊢
  have HgB := Lib.hid hgB
  clear hgB hz
  go_loopw [14] (fun i wr => ∃ k : Nat, k ≤ n ∧ i = .int .i64 k ∧ Blk wr g (FO.fold (L.take k)) ∧ Below w.heap.size w wr ∧ Hid (∀ j, j < k → (L.getD j []).length = 0 ∨ (L.getD j []).length = 128)) (fun i _ => n - (intOf i).toNat)
  case atStart => exact ⟨0, by omega, rfl, hblk, hbel, fun j hj => by omega⟩
  case round =>
    obtain ⟨k, hk, rfl, hblk, hbel, HG⟩ := hrel
    by_cases hlt : k < n
    · obtain ⟨b, off, xa, xlen, xcap, xl, rfl, hbB, hx, hcell, hxr⟩ := Hr.out.at k (by rw [Hn.out]; exact hlt)
      rw [← hbel.cell (p := ⟨b, off + k, none⟩) hbB] at hcell
      have hxl : L.getD k [] = xl := by rw [Hgt.out, hx]
      have hnext := FO.stp_next L k (by rw [HL.out]; exact hlt)
      rw [hxl] at hnext
      have Hnext := Lib.hid hnext
      have hAl : (FO.fold (L.take k)).length = 128 := FO.fold_length _
      have hAb : ∀ x ∈ FO.fold (L.take k), x < 256 := FO.fold_bytes (fun l hl => Hby.out l (List.mem_of_mem_take hl))
      obtain rfl := hxr.long
      have HAl := Lib.hid hAl
      have HAb := Lib.hid hAb
      have Hxl := Lib.hid hxl
      clear hnext hxl hx hAl hAb
      generalize FO.fold (L.take k) = A at *
      have next : (xl.length = 0 ∨ xl.length = 128) → ∀ j, j < k + 1 → (L.getD j []).length = 0 ∨ (L.getD j []).length = 128 := fun h j hj => by
        rcases Nat.lt_or_ge j k with h1 | h1
        · exact HG.out j h1
        · obtain rfl : j = k := by omega
          rw [Hxl.out]; exact h
      have HN := Lib.hid next
      clear next
      by_cases hlen : xl.length = 0
      · have hxn : xl = [] := List.eq_nil_of_length_eq_zero hlen
        rw [hlen] at hcell
        rw [hxn, ← FO.stp_nil A HAl.out] at Hnext
        have Hb := Lib.hid hblk
        have Hl := Lib.hid hbel
        have HLen0 := Lib.hid hlen
        clear hblk hbel hxr hlen hxn
        go_wp2
        go_roundw
        case rel => exact ⟨k + 1, by omega, by go_num, by rw [← Hnext.out]; exact Hb.out, Hl.out, HN.out (.inl HLen0.out)⟩
        case measure => simp [intOf]; omega
      by_cases hlen : xl.length = 128
      · have hblk0 : Blk wr g (FO.stp A xl 0) := by rw [FO.stp_zero A xl HAl.out]; exact hblk
        have hxb := Lib.hid hxr.byt
        have Hxr := Lib.hid hxr
        have Hlen := Lib.hid hlen
        rw [hlen] at hcell
        have Hk := Lib.hid hlt
        clear hblk hxr hlen
        go_wp2
        go_loopw [26] (fun i w2 => ∃ m : Nat, m ≤ 128 ∧ i = .int .i64 m ∧ Blk w2 g (FO.stp A xl m) ∧ Below w.heap.size w w2) (fun i _ => 128 - (intOf i).toNat)
        case atStart => exact ⟨0, by omega, rfl, hblk0, hbel⟩
        case round =>
          obtain ⟨m, hm1, rfl, hb2, hl2⟩ := hrel
          by_cases hlt2 : m < 128
          · obtain ⟨b2, off2, rfl, hB2, hcc⟩ := (Hxr.out.below hl2).cells (by intro e; have := Hlen.out; rw [e] at this; simp at this)
            have f0 := hcc m (by rw [Hlen.out]; exact hlt2)
            have f1 := hb2.cell m (by rw [FO.stp_length]; exact hlt2)
            rw [FO.stp_get _ _ _ _ hlt2, if_neg (Nat.lt_irrefl _)] at f1
            have f2 := hb2.frozen m
            have hs := hb2.set m (A.getD m 0 ^^^ xl.getD m 0)
            rw [FO.stp_set _ _ _ hlt2] at hs
            have hb' : Below w.heap.size w (wr.setCell ⟨g, m, none⟩ (.int .u8 ((A.getD m 0 ^^^ xl.getD m 0 : Nat) : Int))) := hl2.setCell (by show w.heap.size ≤ g; rw [HgB.out]; exact Nat.le_refl _) _
            have hx8 := xor8 _ _ (FO.getD_lt HAb.out m) (FO.getD_lt hxb.out m)
            have Hs := Lib.hid hs
            have Hb := Lib.hid hb'
            have Hm := Lib.hid hlt2
            clear hs hb' hb2 hl2 hcc hblk0 hbel
            generalize A.getD m 0 = x at *
            generalize xl.getD m 0 = y at *
            generalize x ^^^ y = z at *
            go_wp2
            go_roundw
            case rel => exact ⟨m + 1, by omega, by go_num, Hs.out, Hb.out⟩
            case measure => simp [intOf]; omega
          · obtain rfl : m = 128 := by omega
            have Hb := Lib.hid hb2
            have Hl := Lib.hid hl2
            clear hb2 hl2 hblk0 hbel
            go_wp2
            go_roundw
            case rel => exact ⟨k + 1, by omega, by go_num, by rw [← Hnext.out]; exact Hb.out, Hl.out, HN.out (.inr Hlen.out)⟩
            case measure => simp [intOf]; omega
      · have Hl := Lib.hid hbel
        have hsm := hxr.small
        have hft := hxr.fits
        unfold maxLen at hsm
        have HK := Lib.hid hlt
        have HLn : Hid (xl.length ≠ 0 ∧ xl.length ≠ 128) := ⟨by assumption, hlen⟩
        have e0 : ((xl.length : Int) == 0) = false := by rw [beq_eq_false_iff_ne]; omega
        have e1 : ((xl.length : Int) == 128) = false := by rw [beq_eq_false_iff_ne]; omega
        clear hblk hbel hxr
        generalize hq : xl.length = q at *
        have Hq := Lib.hid hq
        clear hq
        go_wp2
        try rw [Exit.noGoto_ret]
        go_ret2
        have hbad : FO.good L = false := by
          rw [← Bool.not_eq_true, FO.good_iff]
          intro h
          have := h (L.getD k []) (mem_getD (by rw [HL.out]; exact HK.out))
          rw [Hxl.out, Hq.out] at this
          have := HLn.out
          omega
        have hcode : FO.code L = 3 := FO.code_text (by rw [HL.out]; exact hm) hbad
        exact .inr ⟨by rw [hcode]; decide, by rw [hcode]; rfl, Hl.out⟩
    · obtain rfl : k = n := by omega
      have hgood : FO.good L = true := by
        rw [FO.good_iff]
        intro l hl
        obtain ⟨j, hj, rfl⟩ := List.mem_iff_getElem.1 hl
        have := HG.out j (by rw [← HL.out]; exact hj)
        simpa [List.getD, hj] using this
      have HGood := Lib.hid hgood
      clear hgood
      go_wp2
      try rw [Exit.noGoto_ret]
      go_ret2
      rw [List.take_of_length_le (by rw [HL.out]; exact Nat.le_refl _)] at hblk
      exact .inl ⟨FO.code_ok (by rw [HL.out]; exact hm) HGood.out, g, rfl, by rw [HgB.out]; exact Nat.le_refl _, hblk, hbel⟩
theorem fold_any (a : Option Addr) (len cap : Nat) (H : List Hd) (w : World) (hr : Rds w.heap.size w a len cap H) :
    Calls Try.prog 10 #[.slice a len cap] w (Folded w (lists H)) := by
  by_cases h : H.length ≤ 16
  · exact fold_few a len cap H w hr h
  · refine (fold_many a len cap H w hr (by omega)).mono ?_
    rintro e w1 ⟨rfl, rfl⟩
    have hcode : FO.code (lists H) = 4 := FO.code_many (by rw [lists_length]; omega)
    exact .inr ⟨by rw [hcode]; decide, by rw [hcode]; rfl, Below.refl _ _⟩
theorem fold_good (a : Option Addr) (len cap : Nat) (H : List Hd) (w : World) (hr : Rds w.heap.size w a len cap H) (hc : FO.code (lists H) = 0) :
    Calls Try.prog 10 #[.slice a len cap] w (NewBlk w (FO.fold (lists H))) := by
  refine (fold_any a len cap H w hr).mono ?_
  rintro e w1 (⟨_, h⟩ | ⟨h, _⟩)
  · exact h
  · exact absurd hc h
theorem fold_bad (a : Option Addr) (len cap : Nat) (H : List Hd) (c : Nat) (w : World) (hr : Rds w.heap.size w a len cap H) (hc : FO.code (lists H) = c) (h0 : c ≠ 0) :
    Calls Try.prog 10 #[.slice a len cap] w fun e w' => e = .returned (.tuple #[.slice none 0 0, .int .i64 (c : Int)]) ∧ Below w.heap.size w w' := by
  subst hc
  refine (fold_any a len cap H w hr).mono ?_
  rintro e w1 (⟨h, _⟩ | ⟨_, h⟩)
  · exact absurd h h0
  · exact h
end Go.Proofs.Yticojepedpionaa.PW
