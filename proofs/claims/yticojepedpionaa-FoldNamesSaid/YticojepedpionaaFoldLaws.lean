/-
  What the walks of layer 3's laws share: a block of one byte, two blocks, great lists; and FoldNames.
-/
import Derived.Test.YticojepedpionaaFoldWalks
import Derived.Deep.QuietTactic
import Derived.BigQuiet
import Derived.RegionTactic
import Derived.Deep.RegionWith
namespace Go.Proofs.Yticojepedpionaa.PW
open Go.RowKit
set_option linter.unusedVariables false

theorem great_long (a : Option Addr) (len cap : Nat) (H : List Hd) (w : World) {B : Nat} (hr : Rds B w a len cap H) (h : 300 < H.length) :
    Calls Try.prog 13 #[.slice a len cap] w fun e w' => e = .returned (.bool true) ∧ w = w' := by
  obtain rfl := hr.long
  have h1 := hr.small
  have h2 := hr.fits
  unfold maxLen at h1
  clear hr
  generalize H.length = n at *
  go_enter Try.func13, Try.ntmps13
  go_wp2
  go_ret
  exact ⟨rfl, rfl⟩

/-- Is a list great? -/
def big (L : List (List Nat)) : Bool := decide (300 < L.length) || L.any fun l => decide (1000 < l.length)

theorem great_few (a : Option Addr) (len cap : Nat) (H : List Hd) (w : World) {B : Nat} (hr : Rds B w a len cap H) (h : H.length ≤ 300) :
    Calls Try.prog 13 #[.slice a len cap] w fun e w' => e = .returned (.bool (big (lists H))) ∧ w = w' := by
  obtain rfl := hr.long
  have HL := Lib.hid (lists_length H)
  have Hgt := Lib.hid (lists_getD H)
  have Hr := Lib.hid hr
  generalize lists H = L at *
  clear hr
  generalize hn : H.length = n at *
  have Hn := Lib.hid hn
  clear hn
  go_enter Try.func13, Try.ntmps13
  go_wp2
  go_loop [3] (fun i => ∃ k : Nat, k ≤ n ∧ i = .int .i64 k ∧ Hid (∀ j, j < k → (L.getD j []).length ≤ 1000)) (fun i => n - (intOf i).toNat)
  case atStart => exact ⟨0, by omega, rfl, fun j hj => by omega⟩
  case round =>
    obtain ⟨k, hk, rfl, HG⟩ := hrel
    by_cases hlt : k < n
    · obtain ⟨b, off, xa, xlen, xcap, xl, rfl, hbB, hx, hcell, hxr⟩ := Hr.out.at k (by rw [Hn.out]; exact hlt)
      have hxl : L.getD k [] = xl := by rw [Hgt.out, hx]
      obtain rfl := hxr.long
      have hsm := hxr.small
      have hft := hxr.fits
      unfold maxLen at hsm
      have Hxl := Lib.hid hxl
      have Hk := Lib.hid hlt
      clear hxr hxl hx
      generalize hq : xl.length = q at *
      have Hq := Lib.hid hq
      clear hq
      by_cases hgr : 1000 < q
      · go_wp2
        go_ret
        have : big L = true := by
          unfold big
          rw [Bool.or_eq_true, List.any_eq_true]
          exact .inr ⟨L.getD k [], mem_getD (by rw [HL.out]; exact Hk.out), by rw [Hxl.out, Hq.out]; simpa using hgr⟩
        exact ⟨by rw [this]; rfl, rfl⟩
      · go_wp2
        go_round
        case rel =>
          refine ⟨k + 1, by omega, by go_num, fun j hj => ?_⟩
          rcases Nat.lt_or_ge j k with h1 | h1
          · exact HG.out j h1
          · obtain rfl : j = k := by omega
            rw [Hxl.out, Hq.out]; omega
        case measure => simp [intOf]; omega
    · obtain rfl : k = n := by omega
      have : big L = false := by
        unfold big
        rw [Bool.or_eq_false_iff, List.any_eq_false]
        refine ⟨by rw [HL.out]; simpa using h, fun l hl => ?_⟩
        obtain ⟨j, hj, rfl⟩ := List.mem_iff_getElem.1 hl
        have := HG.out j (by rw [← HL.out]; exact hj)
        simp [List.getD, hj] at this
        simpa using this
      have HB := Lib.hid this
      clear this
      go_wp2
      go_ret
      exact ⟨by rw [HB.out]; rfl, rfl⟩

theorem great_any (a : Option Addr) (len cap : Nat) (H : List Hd) (w : World) {B : Nat} (hr : Rds B w a len cap H) :
    Calls Try.prog 13 #[.slice a len cap] w fun e w' => e = .returned (.bool (big (lists H))) ∧ w = w' := by
  by_cases h : H.length ≤ 300
  · exact great_few a len cap H w hr h
  · have : big (lists H) = true := by unfold big; rw [lists_length]; simp; omega
    rw [this]
    exact great_long a len cap H w hr (by omega)
theorem big_no {L : List (List Nat)} (h : big L = false) : L.length ≤ 300 ∧ ∀ l ∈ L, l.length ≤ 1000 := by
  unfold big at h
  rw [Bool.or_eq_false_iff, List.any_eq_false] at h
  exact ⟨by simpa using h.1, fun l hl => by simpa using h.2 l hl⟩

set_option maxRecDepth 100000 in
theorem full_any (x : Nat) (w : World) (hx : x < 256) :
    Calls Try.prog 11 #[.int .u8 x] w fun e w' => ∃ g, e = .returned (.slice (some ⟨g, 0, none⟩) 128 128) ∧ w.heap.size ≤ g ∧ Blk w' g (List.replicate 128 x) ∧ Below w.heap.size w w' := by
  obtain ⟨Z, HZ, HZl, hz⟩ := make128'
  go_enter Try.func11, Try.ntmps11
  go_wp2
  have hblk : Blk (w.alloc (.cells (Z.map bv).toArray 5)) w.heap.size (List.replicate 0 x ++ Z.drop 0) := Blk.alloc w Z _
  have hbel : Below w.heap.size w (w.alloc (.cells (Z.map bv).toArray 5)) := (Below.refl _ w).alloc (Nat.le_refl _) _
  generalize w.alloc (.cells (Z.map bv).toArray 5) = w1 at *
  generalize hgB : w.heap.size = g at hblk ⊢
  have HgB := Lib.hid hgB
  clear hgB hz
  go_loopw [4] (fun i wr => ∃ k : Nat, k ≤ 128 ∧ i = .int .i64 k ∧ Blk wr g (List.replicate k x ++ Z.drop k) ∧ Below w.heap.size w wr) (fun i _ => 128 - (intOf i).toNat)
  case atStart => exact ⟨0, by omega, rfl, hblk, hbel⟩
  case round =>
    obtain ⟨k, hk, rfl, hblk, hbel⟩ := hrel
    by_cases hlt : k < 128
    · have f1 := hblk.cell k (by rw [List.length_append, List.length_drop, HZl.out]; simp; omega)
      have f2 := hblk.frozen k
      have hs := hblk.set k x
      have e : (List.replicate k x ++ Z.drop k).set k x = List.replicate (k + 1) x ++ Z.drop (k + 1) := by
        have h1 := List.drop_eq_getElem_cons (show k < Z.length by rw [HZl.out]; exact hlt)
        rw [h1, List.set_append_right _ _ (by simp)]
        rw [List.length_replicate, Nat.sub_self, List.set_cons_zero, List.replicate_succ', List.append_assoc]; rfl
      rw [e] at hs
      have hb' : Below w.heap.size w (wr.setCell ⟨g, k, none⟩ (.int .u8 (x : Int))) := hbel.setCell (by show w.heap.size ≤ g; rw [HgB.out]; exact Nat.le_refl _) _
      have Hs := Lib.hid hs
      have Hb := Lib.hid hb'
      clear hs hb' hblk hbel e
      go_wp2
      go_roundw
      case rel => exact ⟨k + 1, by omega, by go_num, Hs.out, Hb.out⟩
      case measure => simp [intOf]; omega
    · obtain rfl : k = 128 := by omega
      rw [List.drop_of_length_le (by rw [HZl.out]; exact Nat.le_refl _), List.append_nil] at hblk
      have Hb := Lib.hid hblk
      clear hblk
      go_wp2
      go_ret
      exact ⟨g, rfl, by rw [HgB.out]; exact Nat.le_refl _, Hb.out, hbel⟩

theorem rep_bytes (x : Nat) (hx : x < 256) : Bytes (List.replicate 128 x) := fun y hy => by rw [(List.mem_replicate.1 hy).2]; exact hx
theorem fold_53 : FO.fold [List.replicate 128 5, List.replicate 128 3] = List.replicate 128 6 := by decide +kernel

/-- A block as a list's item. -/
def Hd.blk (g : Nat) (l : List Nat) : Hd := ⟨some ⟨g, 0, none⟩, 128, 128, l⟩
theorem Blk.hd {w : World} {g : Nat} {l : List Nat} (h : Blk w g l) (hl : l.length = 128) (hb : Bytes l) : (Hd.blk g l).Rd w.heap.size w := by
  show Rd _ _ _ 128 128 _
  exact h.rd hl hb

set_option maxRecDepth 100000 in
theorem alive_any (w : World) :
    Calls Try.prog 12 #[] w fun e w' => e = .returned (.bool true) ∧ Below w.heap.size w w' := by
  have F5 := Lib.hid (fun w => full_any 5 w (by decide))
  have F3 := Lib.hid (fun w => full_any 3 w (by decide))
  have F6 := Lib.hid (fun w => full_any 6 w (by decide))
  have B5 := Lib.hid (rep_bytes 5 (by decide))
  have B3 := Lib.hid (rep_bytes 3 (by decide))
  have B6 := Lib.hid (rep_bytes 6 (by decide))
  have L5 : Hid ((List.replicate 128 5).length = 128) := List.length_replicate
  have L3 : Hid ((List.replicate 128 3).length = 128) := List.length_replicate
  have L6 : Hid ((List.replicate 128 6).length = 128) := List.length_replicate
  have H53 := Lib.hid fold_53
  have HC : Hid (FO.code [List.replicate 128 5, List.replicate 128 3] = 0) := by show _ = _; decide +kernel
  generalize List.replicate 128 5 = l5 at *
  generalize List.replicate 128 3 = l3 at *
  generalize List.replicate 128 6 = l6 at *
  go_enter Try.func12, Try.ntmps12
  go_wp2_with fail
  refine (F5.out _).mono ?_
  rintro e w1 ⟨g1, rfl, hg1, hblk1, hb1⟩
  go_wp2_with fail
  refine (F3.out _).mono ?_
  rintro e w2 ⟨g2, rfl, hg2, hblk2, hb2⟩
  have k1 := (hblk1.hd L5.out B5.out)
  have k2 := (hblk2.hd L3.out B3.out)
  have hlit := fun w' fr hw => rds_lit w2 w' [Hd.blk g1 l5, Hd.blk g2 l3] #[.slice (some ⟨g1, 0, none⟩) 128 128, .slice (some ⟨g2, 0, none⟩) 128 128] 2 2 fr hw rfl rfl rfl (by unfold maxLen; simp) (by
    intro h hh
    simp at hh
    rcases hh with rfl | rfl
    · exact (k1.below hb2).mono hb2.size
    · exact k2)
  have HF := Lib.hid (fun a' w' hr => fold_good a' 2 2 [Hd.blk g1 l5, Hd.blk g2 l3] w' hr HC.out)
  have HLit := Lib.hid hlit
  have b2 := thence hb1 hb2 (Nat.le_refl _)
  have B2 := Lib.hid b2
  clear hlit k1 k2 hblk1 hblk2 hb1 hb2 b2
  go_wp2_with fail
  refine (HF.out _ _ (HLit.out _ _ rfl)).mono ?_
  rintro e w3 ⟨g3, rfl, hg3, hblk3, hb3⟩
  have e6 : FO.fold (lists [Hd.blk g1 l5, Hd.blk g2 l3]) = l6 := H53.out
  rw [e6] at hblk3
  have hr3 := hblk3.rd L6.out B6.out
  have b3 := thence ((B2.out).alloc (B2.out).size _) hb3 (Nat.le_refl _)
  have HR3 := Lib.hid hr3
  have B3' := Lib.hid b3
  clear hblk3 hb3 hr3 b3 e6 hg3 hg2 hg1 HLit HF F5 F3 B5 B3 L5 L3 HC H53
  have s3 := text_is w3.drew _ _ _ _ (HR3.out.below (Below.refl _ _).drew)
  go_wp2_with fail
  go_region_with (go_at_call 11; refine (F6.out _).mono ?_; rintro e w4 ⟨g4, rfl, hg4, hblk4, hb4⟩; have s4 := text_is w4 _ _ _ _ (hblk4.rd L6.out B6.out); have s5 := text_is w4 _ _ _ _ (HR3.out.below (thence (Below.refl _ w3).drew hb4 (Nat.le_refl _))))
  all_goals
    go_wp2
    go_ret
    exact ⟨rfl, thence (B3'.out.drew) hb4 (Nat.le_refl _)⟩

/-- The fold of slices that are laid in a new block. -/
theorem fold_lit (w : World) (H : List Hd) (A : Array Value) (n : Nat) (fr : Nat × Nat) (hn : n = H.length) (hA : A = (H.map Hd.val).toArray) (hm : H.length ≤ 16) (each : ∀ h ∈ H, h.Rd w.heap.size w) (hc : FO.code (lists H) = 0) :
    Calls Try.prog 10 #[.slice (some ⟨w.heap.size, 0, none⟩) n n] (w.alloc (.cells A 22 fr)) fun e w' => ∃ g, e = .returned (.tuple #[.slice (some ⟨g, 0, none⟩) 128 128, .int .i64 0]) ∧ w.heap.size ≤ g ∧ Blk w' g (FO.fold (lists H)) ∧ Below w.heap.size w w' := by
  have hr := rds_lit w _ H A n n fr rfl hn hn hA (by unfold maxLen; omega) each
  refine (fold_good _ n n H _ hr hc).mono ?_
  rintro e w1 ⟨g, rfl, hg, hblk, hb⟩
  exact ⟨g, rfl, by simp at hg; omega, hblk, thence ((Below.refl _ w).alloc (Nat.le_refl _) _) hb (Nat.le_refl _)⟩
theorem fold_lit_bad (w : World) (H : List Hd) (A : Array Value) (n c : Nat) (fr : Nat × Nat) (hn : n = H.length) (hA : A = (H.map Hd.val).toArray) (hm : H.length ≤ maxLen) (each : ∀ h ∈ H, h.Rd w.heap.size w) (hc : FO.code (lists H) = c) (h0 : c ≠ 0) :
    Calls Try.prog 10 #[.slice (some ⟨w.heap.size, 0, none⟩) n n] (w.alloc (.cells A 22 fr)) fun e w' => e = .returned (.tuple #[.slice none 0 0, .int .i64 (c : Int)]) ∧ Below w.heap.size w w' := by
  have hr := rds_lit w _ H A n n fr rfl hn hn hA hm each
  refine (fold_bad _ n n H c _ hr hc h0).mono ?_
  rintro e w1 ⟨rfl, hb⟩
  exact ⟨rfl, thence ((Below.refl _ w).alloc (Nat.le_refl _) _) hb (Nat.le_refl _)⟩

/-- A block that a call made, as text in any later world. -/
theorem text_at {w w' : World} {g : Nat} {l : List Nat} (h : Blk w g l) (hl : l.length = 128) (hb : Bytes l) (hbel : Below w.heap.size w w') :
    (convert 22 9 (.slice (some ⟨g, 0, none⟩) 128 128)).run Try.prog w' = .ok (.string (str l)) w' :=
  text_is w' _ _ _ _ ((h.rd hl hb).below hbel)

end Go.Proofs.Yticojepedpionaa.PW
