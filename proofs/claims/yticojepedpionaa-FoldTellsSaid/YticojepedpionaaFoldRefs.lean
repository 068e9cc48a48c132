/-
  The document's own answers of layer 3 (freeboardref03).
-/
import Derived.Test.YticojepedpionaaFoldWalks
import Derived.Test.YticojepedpionaaRefBlocks
import Derived.RegionTactic
namespace Go.Proofs.Yticojepedpionaa.PW
open Go.RowKit
set_option linter.unusedVariables false

theorem refblocks_any (a : Option Addr) (len cap : Nat) (H : List Hd) (w : World) {B : Nat} (hr : Rds B w a len cap H) :
    Calls Try.prog 18 #[.slice a len cap] w fun e w' => e = .returned (.bool (FO.good (lists H))) ∧ w = w' := by
  obtain rfl := hr.long
  have HL := Lib.hid (lists_length H)
  have Hgt := Lib.hid (lists_getD H)
  have h1 := hr.small
  have h2 := hr.fits
  unfold maxLen at h1
  have Hr := Lib.hid hr
  generalize lists H = L at *
  clear hr
  generalize hn : H.length = n at *
  have Hn := Lib.hid hn
  clear hn
  go_enter Try.func18, Try.ntmps18
  go_wp2
  go_loopw [3] (fun i wr => ∃ k : Nat, k ≤ n ∧ i = .int .i64 k ∧ w = wr ∧ Hid (∀ j, j < k → (L.getD j []).length = 0 ∨ (L.getD j []).length = 128)) (fun i _ => n - (intOf i).toNat)
  case atStart => exact ⟨0, by omega, rfl, rfl, fun j hj => by omega⟩
  case round =>
    obtain ⟨k, hk, rfl, rfl, HG⟩ := hrel
    by_cases hlt : k < n
    · obtain ⟨b, off, xa, xlen, xcap, xl, rfl, hbB, hx, hcell, hxr⟩ := Hr.out.at k (by rw [Hn.out]; exact hlt)
      have hxl : L.getD k [] = xl := by rw [Hgt.out, hx]
      have Hxl := Lib.hid hxl
      have Hk := Lib.hid hlt
      clear hxl hx
      by_cases hgd : xl.length = 0 ∨ xl.length = 128
      · have C := Lib.hid (refblock_yes xa xlen xcap xl w hxr hgd)
        have HD := Lib.hid hgd
        clear hxr hgd
        go_wp2_with fail
        refine C.out.mono ?_
        rintro e w1 ⟨rfl, rfl⟩
        go_wp2
        go_roundw
        case rel =>
          refine ⟨k + 1, by omega, by go_num, by first | rfl | trivial, fun j hj => ?_⟩
          rcases Nat.lt_or_ge j k with h1 | h1
          · exact HG.out j h1
          · obtain rfl : j = k := by omega
            rw [Hxl.out]; exact HD.out
        case measure => simp [intOf]; omega
      · have C := Lib.hid (refblock_no xa xlen xcap xl w hxr (fun h => hgd (.inl h)) (fun h => hgd (.inr h)))
        have HD := Lib.hid hgd
        clear hxr hgd
        go_wp2_with fail
        refine C.out.mono ?_
        rintro e w1 ⟨rfl, rfl⟩
        go_wp2
        go_ret
        have : FO.good L = false := by
          rw [← Bool.not_eq_true, FO.good_iff]
          intro h
          have := h (L.getD k []) (mem_getD (by rw [HL.out]; exact Hk.out))
          rw [Hxl.out] at this
          exact HD.out this
        exact ⟨by rw [this]; rfl, rfl⟩
    · obtain rfl : k = n := by omega
      have hgood : FO.good L = true := by
        rw [FO.good_iff]
        intro l hl
        obtain ⟨j, hj, rfl⟩ := List.mem_iff_getElem.1 hl
        have := HG.out j (by rw [← HL.out]; exact hj)
        simpa [List.getD, hj] using this
      have HGood := Lib.hid hgood
      clear hgood
      go_wp2
      go_ret
      exact ⟨by rw [HGood.out]; rfl, rfl⟩

set_option maxRecDepth 100000 in
set_option maxHeartbeats 1000000 in
theorem reftwo_any (a : Option Addr) (len cap : Nat) (A : List Nat) (b : Option Addr) (lenb capb : Nat) (m : List Nat) (w : World) (hA : A.length = 128) (hr : Rd w.heap.size w a len cap A) (hq : Rd w.heap.size w b lenb capb m) (hm : m.length = 0 ∨ m.length = 128) :
    Calls Try.prog 21 #[.slice a len cap, .slice b lenb capb] w fun e w' => ∃ g, e = .returned (.slice (some ⟨g, 0, none⟩) 128 128) ∧ w.heap.size ≤ g ∧ Blk w' g (FO.stp A m 128) ∧ Below w.heap.size w w' := by
  have HWh := Lib.hid (refwhole_any a len cap A w (by omega) hr)
  rw [PK.wh_full hA] at HWh
  have HA := Lib.hid hA
  have HAb : Hid (Bytes A) := hr.byt
  have Hm := Lib.hid hm
  obtain rfl := hq.long
  have Hq := Lib.hid hq
  clear hr hA hq
  generalize hn : m.length = n at *
  have Hn := Lib.hid hn
  clear hn
  go_enter Try.func21, Try.ntmps21
  go_wp2_with fail
  refine HWh.out.mono ?_
  rintro e w1 ⟨g, rfl, hg, hblk, hb1⟩
  have hblk0 : Blk w1 g (FO.stp A m 0) := by rw [FO.stp_zero A m HA.out]; exact hblk
  clear hblk
  go_wp2_with fail
  go_loopw [6] (fun j wr => ∃ k : Nat, k ≤ n ∧ j = .int .i64 k ∧ Blk wr g (FO.stp A m k) ∧ Below w.heap.size w wr) (fun j _ => n - (intOf j).toNat)
  case atStart => exact ⟨0, by omega, rfl, hblk0, hb1⟩
  case round =>
    obtain ⟨k, hk, rfl, hb2, hl2⟩ := hrel
    by_cases hlt : k < n
    · obtain ⟨b2, off2, rfl, hB2, hcc⟩ := (Hq.out.below hl2).cells (by intro e; have := Hn.out; rw [e] at this; simp at this; omega)
      have h128 : k < 128 := by omega
      have f0 := hcc k (by rw [Hn.out]; exact hlt)
      have f1 := hb2.cell k (by rw [FO.stp_length]; exact h128)
      rw [FO.stp_get _ _ _ _ h128, if_neg (Nat.lt_irrefl _)] at f1
      have f2 := hb2.frozen k
      have hs := hb2.set k (A.getD k 0 ^^^ m.getD k 0)
      rw [FO.stp_set _ _ _ h128] at hs
      have hb' : Below w.heap.size w (wr.setCell ⟨g, k, none⟩ (.int .u8 ((A.getD k 0 ^^^ m.getD k 0 : Nat) : Int))) := hl2.setCell hg _
      have hx8 := xor8 _ _ (FO.getD_lt HAb.out k) (FO.getD_lt Hq.out.byt k)
      have Hs := Lib.hid hs
      have Hb := Lib.hid hb'
      have hne : g ≠ b2 := by omega
      clear hs hb' hb2 hl2 hcc hblk0 hb1 hm
      generalize A.getD k 0 = x at *
      generalize m.getD k 0 = y at *
      generalize x ^^^ y = z at *
      go_wp2
      go_region
      all_goals
        go_wp2
        go_roundw
        case rel => exact ⟨k + 1, by omega, by go_num, Hs.out.drew, Hb.out.drew⟩
        case measure => simp [intOf]; omega
    · obtain rfl : k = n := by omega
      have hfin : Blk wr g (FO.stp A m 128) := by
        rcases Hm.out with h | h
        · subst h
          have : m = [] := List.eq_nil_of_length_eq_zero Hn.out
          subst this
          rw [← FO.stp_nil A HA.out]
          rw [FO.stp_zero A [] HA.out] at hb2
          exact hb2
        · subst h; exact hb2
      have HF := Lib.hid hfin
      have HL := Lib.hid hl2
      clear hb2 hl2 hfin hblk0 hb1 hm
      go_wp2
      go_ret
      exact ⟨g, rfl, hg, HF.out, HL.out⟩

set_option maxRecDepth 100000 in
set_option maxHeartbeats 1000000 in
theorem refall_any (a : Option Addr) (len cap : Nat) (H : List Hd) (w : World) (hr : Rds w.heap.size w a len cap H) (hg : FO.good (lists H) = true) (hm : H.length ≤ 16) :
    Calls Try.prog 19 #[.slice a len cap] w fun e w' => ∃ g, e = .returned (.slice (some ⟨g, 0, none⟩) 128 128) ∧ w.heap.size ≤ g ∧ Blk w' g (FO.fold (lists H)) ∧ Below w.heap.size w w' := by
  obtain rfl := hr.long
  obtain ⟨Z, HZ, HZl, hz⟩ := make128'
  have Hby : Hid (FO.bytes (lists H)) := hr.bytes
  have HL := Lib.hid (lists_length H)
  have Hgd := Lib.hid hg
  have Hr := Lib.hid hr
  have Hgt := Lib.hid (lists_getD H)
  clear hg hr
  generalize lists H = L at *
  generalize hn : H.length = n at *
  have Hn := Lib.hid hn
  clear hn
  go_enter Try.func19, Try.ntmps19
  go_wp2
  have hblk : Blk (w.alloc (.cells (Z.map bv).toArray 5)) w.heap.size (FO.fold (L.take 0)) := by
    rw [List.take_zero, FO.fold_nil, ← HZ.out]; exact Blk.alloc w Z _
  have hbel : Below w.heap.size w (w.alloc (.cells (Z.map bv).toArray 5)) := (Below.refl _ w).alloc (Nat.le_refl _) _
  generalize w.alloc (.cells (Z.map bv).toArray 5) = w1 at *
  clear hz
  go_loopw [3, 4] (fun v i wr => ∃ k g : Nat, k ≤ n ∧ i = .int .i64 k ∧ v = .slice (some ⟨g, 0, none⟩) 128 128 ∧ w.heap.size ≤ g ∧ Blk wr g (FO.fold (L.take k)) ∧ Below w.heap.size w wr) (fun _ i _ => n - (intOf i).toNat)
  case atStart => exact ⟨0, w.heap.size, by omega, rfl, rfl, Nat.le_refl _, hblk, hbel⟩
  case round =>
    obtain ⟨k, g, hk, rfl, rfl, hg, hb2, hl2⟩ := hrel
    by_cases hlt : k < n
    · obtain ⟨b, off, xa, xlen, xcap, xl, rfl, hbB, hx, hcell, hxr⟩ := (Hr.out.below hl2).at k (by rw [Hn.out]; exact hlt)
      have hxl : L.getD k [] = xl := by rw [Hgt.out, hx]
      have hnext := FO.stp_next L k (by rw [HL.out]; exact hlt)
      have hlen := FO.good_at Hgd.out k
      rw [hxl] at hnext hlen
      have hAb : Bytes (FO.fold (L.take k)) := FO.fold_bytes (fun l hl => Hby.out l (List.mem_of_mem_take hl))
      have C := Lib.hid (reftwo_any _ 128 128 (FO.fold (L.take k)) xa xlen xcap xl wr (FO.fold_length _) (hb2.rd (FO.fold_length _) hAb) (hxr.mono hl2.size) hlen)
      rw [hnext] at C
      have HL2 := Lib.hid hl2
      clear hblk hbel hb2 hl2 hxr hlen hnext hxl hx hAb
      go_wp2_with fail
      refine C.out.mono ?_
      rintro e w2 ⟨g2, rfl, hg2, hb2, hbb⟩
      have HB := Lib.hid hb2
      have HBB := Lib.hid hbb
      have hsz := HL2.out.size
      clear hb2 hbb C
      go_wp2
      go_roundw
      case rel => exact ⟨k + 1, g2, by omega, by go_num, rfl, by omega, HB.out, thence HL2.out HBB.out (Nat.le_refl _)⟩
      case measure => simp [intOf]; omega
    · obtain rfl : k = n := by omega
      rw [List.take_of_length_le (by rw [HL.out]; exact Nat.le_refl _)] at hb2
      have HB := Lib.hid hb2
      have HL2 := Lib.hid hl2
      clear hblk hbel hb2 hl2
      go_wp2
      go_ret
      exact ⟨g, rfl, hg, HB.out, HL2.out⟩

theorem reffold_any (a : Option Addr) (len cap : Nat) (H : List Hd) (w : World) (hr : Rds w.heap.size w a len cap H) :
    Calls Try.prog 15 #[.slice a len cap] w (Folded w (lists H)) := by
  obtain rfl := hr.long
  have h1 := hr.small
  have h2 := hr.fits
  unfold maxLen at h1
  rcases FO.code_cases (lists H) with ⟨hc, hm⟩ | ⟨hc, hm, hg⟩ | ⟨hc, hm, hg⟩
  · rw [lists_length] at hm
    have HC := Lib.hid hc
    clear hr hc
    generalize H.length = n at *
    go_enter Try.func15, Try.ntmps15
    go_wp2
    go_ret2
    exact .inr ⟨by rw [HC.out]; decide, by rw [HC.out]; rfl, Below.refl _ _⟩
  · rw [lists_length] at hm
    have C := Lib.hid (refblocks_any a _ cap H w hr)
    rw [hg] at C
    have HC := Lib.hid hc
    clear hr hc hg
    generalize H.length = n at *
    go_enter Try.func15, Try.ntmps15
    go_wp2_with fail
    refine C.out.mono ?_
    rintro e w1 ⟨rfl, rfl⟩
    go_wp2
    go_ret2
    exact .inr ⟨by rw [HC.out]; decide, by rw [HC.out]; rfl, Below.refl _ _⟩
  · rw [lists_length] at hm
    have C := Lib.hid (refblocks_any a _ cap H w hr)
    have D := Lib.hid (refall_any a _ cap H w hr hg hm)
    rw [hg] at C
    have HC := Lib.hid hc
    clear hr hc hg
    generalize H.length = n at *
    go_enter Try.func15, Try.ntmps15
    go_wp2_with fail
    refine C.out.mono ?_
    rintro e w1 ⟨rfl, rfl⟩
    go_wp2_with fail
    refine D.out.mono ?_
    rintro e w1 ⟨g, rfl, hg, hb, hbel⟩
    go_wp2
    go_ret2
    exact .inl ⟨HC.out, g, rfl, hg, hb, hbel⟩
end Go.Proofs.Yticojepedpionaa.PW
