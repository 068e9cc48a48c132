/-
  ActsNames' walk: the kinds' and the limits' numbers and the chapter's examples.
-/
import Derived.Test.YtnhfkfihlkbkfaaActsLawMath2
import Derived.Test.YtnhfkfihlkbkfaaActsGreat
import Derived.Test.YtnhfkfihlkbkfaaActsAlive
import Derived.Test.YtnhfkfihlkbkfaaActsChecks
namespace Go.Proofs.Ytnhfkfihlkbkfaa.PW
open Go.RowKit
open DK (Dv)
set_option linter.unusedVariables false
set_option linter.unusedSimpArgs false
set_option maxRecDepth 100000

theorem names_bools (w : World) :
    (Instr.makeSlice 30 (.int .i64 2) (.int .i64 2)).run Try.prog w = .ok (.slice (some ⟨w.heap.size, 0, none⟩) 2 2) (w.alloc (.cells #[.bool false, .bool false] 4)) := by
  have info : (Try.prog.info? 4).map (fun i => (i.zero, i.size, i.bytes)) = some (some (.bool false), 1, 1) := by kernel_rfl
  obtain ⟨i, hi, hz0, hz1, hz2⟩ := info_parts info
  have := run_make (P := Try.prog) w 30 4 i (.bool false) Try.underlying30 hi hz0 .i64 .i64 2 2 (by omega) (Int.le_refl _) (by rw [hz2]; omega) (by omega)
  rw [hz1, show madeCells (Value.bool false).cells ((2 : Int).toNat * 1) = #[.bool false, .bool false] by kernel_rfl] at this
  exact this
theorem made_acts (n : Nat) : madeCells (Value.agg #[.int .i64 0, .int .u8 0, .int .i64 0, .slice none 0 0]).cells (n * 4) = (kAx.row (List.replicate n Ax.nil)).toArray := by
  apply Array.toList_inj.1
  have hc : (Value.agg #[.int .i64 0, .int .u8 0, .int .i64 0, .slice none 0 0]).cells = #[.int .i64 0, .int .u8 0, .int .i64 0, .slice none 0 0] := by kernel_rfl
  simp only [madeCells, hc]
  apply List.ext_getElem?
  intro i
  by_cases hi : i < n * 4
  · have h1 : (kAx.row (List.replicate n Ax.nil))[i]? = (kAx.cells Ax.nil)[i % 4]? := by
      have e : i = i / 4 * kAx.m + i % 4 := by show i = i / 4 * 4 + i % 4; omega
      have hq : i / 4 < (List.replicate n Ax.nil).length := by simp; omega
      have := kAx.row_get (List.replicate n Ax.nil) (i / 4) (i % 4) hq (show i % 4 < 4 by omega)
      rw [← e] at this
      rw [this]
      congr 2
      simp only [List.getD, List.getElem?_replicate]
      have hq2 : i / 4 < n := by simpa using hq
      simp [hq2]
    rw [List.toList_toArray, h1]
    have : i % 4 = 0 ∨ i % 4 = 1 ∨ i % 4 = 2 ∨ i % 4 = 3 := by omega
    have e : ((Array.range (n * 4)).map (fun x => (#[Value.int .i64 0, .int .u8 0, .int .i64 0, .slice none 0 0] : Array Value)[x % (#[Value.int .i64 0, .int .u8 0, .int .i64 0, .slice none 0 0] : Array Value).size]!)).toList[i]? = some ((#[Value.int .i64 0, .int .u8 0, .int .i64 0, .slice none 0 0] : Array Value)[i % 4]!) := by
      simp [hi]
    rw [e]
    rcases this with h | h | h | h <;> rw [h] <;> rfl
  · have hl : (kAx.row (List.replicate n Ax.nil)).length = n * 4 := by rw [kAx.row_length]; simp; rfl
    rw [List.toList_toArray, List.getElem?_eq_none (by simp; omega), List.getElem?_eq_none (by rw [hl]; omega)]
theorem names_acts : ∃ Z : List Value, Hid (Z = kAx.row (List.replicate 1025 Ax.nil)) ∧ ∀ w : World, (Instr.makeSlice 27 (.int .i64 1025) (.int .i64 1025)).run Try.prog w = .ok (.slice (some ⟨w.heap.size, 0, none⟩) 1025 1025) (w.alloc (.cells Z.toArray 33)) := by
  refine ⟨_, rfl, fun w => ?_⟩
  have info : (Try.prog.info? 33).map (fun i => (i.zero, i.size, i.bytes)) = some (some (.agg #[.int .i64 0, .int .u8 0, .int .i64 0, .slice none 0 0]), 4, 48) := by kernel_rfl
  obtain ⟨i, hi, hz0, hz1, hz2⟩ := info_parts info
  have := run_make (P := Try.prog) w 27 33 i (.agg #[.int .i64 0, .int .u8 0, .int .i64 0, .slice none 0 0]) Try.underlying27 hi hz0 .i64 .i64 1025 1025 (by omega) (Int.le_refl _) (by rw [hz2]; omega) (by omega)
  rw [hz1] at this
  have e : ((1025 : Int).toNat) = 1025 := rfl
  rw [e] at this
  rw [this, made_acts]

theorem names_rg (w : World) (Z : List Value) (hZ : Z = kAx.row (List.replicate 1025 Ax.nil)) : Rg kAx 0 (w.alloc (.cells Z.toArray 33)).heap.size (w.alloc (.cells Z.toArray 33)) (some ⟨w.heap.size, 0, none⟩) 1025 1025 (List.replicate 1025 Ax.nil) := by
  have hb := Bx.new w Z 33
  generalize hL : List.replicate 1025 Ax.nil = L at *
  have hl : L.length = 1025 := by rw [← hL, List.length_replicate]
  rw [hZ] at hb ⊢
  have h := Rg.ofBx (lo := 0) hb (Nat.zero_le _) hb.lt (by unfold maxLen; rw [hl]; omega) (fun x hx => by
    rw [← hL] at hx
    obtain rfl := (List.mem_replicate.1 hx).2
    exact ⟨rdI_nil _ _ _, by show 0 < 256; omega⟩)
  rw [hl] at h
  exact h
theorem names_len : acs (List.replicate 1025 Ax.nil) = List.replicate 1025 AK.Ac.nil := by
  unfold acs
  rw [List.map_replicate]; rfl

def nameActs : List AK.Ac := [⟨2, 3, 0, []⟩]
def deadDs : List Dv := [DK.killed (DK.fresh 2), DK.fresh 2]
theorem names_c : AK.ccode aliveA [false, false] = 2 := by kernel_rfl
theorem names_f : AK.ncode two2 someActs 3 AK.did = 2 := by kernel_rfl
theorem names_g : AK.ncode two2 nameActs 0 AK.did = 2 := by kernel_rfl
theorem names_i : AK.ncode deadDs someActs 1 AK.did = 0 := by kernel_rfl
theorem names_b : AK.ran deadDs someActs 1 AK.did = deadDs := by kernel_rfl
theorem names_m : AK.mays deadDs = true := by kernel_rfl
theorem names_8 : AK.acode [] [] = 8 := by kernel_rfl
theorem names_4 : AK.acode two2 (List.replicate 1025 AK.Ac.nil) = 4 := by kernel_rfl
theorem names_k : killDev (DK.fresh 2) = DK.killed (DK.fresh 2) ∧ DK.kcode (DK.fresh 2) = 0 := ⟨by kernel_rfl, by kernel_rfl⟩

set_option maxHeartbeats 2000000 in
theorem acts_names_walk (w : World) :
    Calls Try.prog 3 #[] w fun e w' => e = .returned (.bool true) ∧ Below w.heap.size w w' := by
  have CT : Hid (∀ w1, Calls Try.prog 11 #[] w1 (NewDv w1 two2)) := two_any
  have CS : Hid (∀ w1, Calls Try.prog 12 #[] w1 (NewAs w1 someActs)) := some_any
  have CA : Hid (∀ w1, Calls Try.prog 15 #[] w1 fun e w' => e = .returned (.bool true) ∧ Below w1.heap.size w1 w') := alive5_any
  have CR1 : Hid (∀ w1 b dn dc L a len cap M, Rg kDn 0 w1.heap.size w1 b dn dc L → Rg kAx 0 w1.heap.size w1 a len cap M → devs L = two2 → acs M = someActs → Calls Try.prog 10 #[.slice b dn dc, .slice a len cap, .int .i64 1] w1 (DsEnd w1 aliveA 0)) := fun w1 b dn dc L a len cap M h1 h2 h3 h4 => by
    have := run_any b dn dc L a len cap M 1 w1 h1 h2
    rw [h3, h4, alive_n1] at this; exact this
  have CR3 : Hid (∀ w1 b dn dc L a len cap M, Rg kDn 0 w1.heap.size w1 b dn dc L → Rg kAx 0 w1.heap.size w1 a len cap M → devs L = two2 → acs M = someActs → Calls Try.prog 10 #[.slice b dn dc, .slice a len cap, .int .i64 3] w1 (DsEnd w1 [] 2)) := fun w1 b dn dc L a len cap M h1 h2 h3 h4 => by
    have := run_any b dn dc L a len cap M 3 w1 h1 h2
    rw [h3, h4, names_f, ran_no (by rw [names_f]; omega)] at this; exact this
  have CR0 : Hid (∀ w1 b dn dc L a len cap M, Rg kDn 0 w1.heap.size w1 b dn dc L → Rg kAx 0 w1.heap.size w1 a len cap M → devs L = two2 → acs M = nameActs → Calls Try.prog 10 #[.slice b dn dc, .slice a len cap, .int .i64 0] w1 (DsEnd w1 [] 2)) := fun w1 b dn dc L a len cap M h1 h2 h3 h4 => by
    have := run_any b dn dc L a len cap M 0 w1 h1 h2
    rw [h3, h4, names_g, ran_no (by rw [names_g]; omega)] at this; exact this
  have CRD : Hid (∀ w1 b dn dc L a len cap M, Rg kDn 0 w1.heap.size w1 b dn dc L → Rg kAx 0 w1.heap.size w1 a len cap M → devs L = deadDs → acs M = someActs → Calls Try.prog 10 #[.slice b dn dc, .slice a len cap, .int .i64 1] w1 (DsEnd w1 deadDs 0)) := fun w1 b dn dc L a len cap M h1 h2 h3 h4 => by
    have := run_any b dn dc L a len cap M 1 w1 h1 h2
    rw [h3, h4, names_i, names_b] at this; exact this
  have CC : Hid (∀ w1 b dn dc L ka, Rg kDn 0 w1.heap.size w1 b dn dc L → Rg kBool 0 w1.heap.size w1 ka 2 2 [false, false] → devs L = aliveA → Calls Try.prog 13 #[.slice b dn dc, .slice ka 2 2] w1 (DsEnd w1 [] 2)) := fun w1 b dn dc L ka h1 h2 h3 => by
    have := crash_any b dn dc L ka 2 2 _ w1 h1 h2
    rw [h3, names_c, crashed_no (by rw [names_c]; omega)] at this; exact this
  have CK : Hid (∀ w1 a n c a' n' c', DevAt w1.heap.size w1 a n c a' n' c' (DK.fresh 2) → Calls Try.prog 14 #[.agg #[.slice a n c, .slice a' n' c', .bool false]] w1 (NewDev w1 (DK.killed (DK.fresh 2)) 0)) := fun w1 a n c a' n' c' hd => by
    have := kill_any a n c a' n' c' (DK.fresh 2) w1 hd
    rw [names_k.1, names_k.2] at this; exact this
  have CX0 : Hid (∀ w1, Calls Try.prog 17 #[.slice none 0 0, .slice none 0 0] w1 fun e w' => e = .returned (.int .i64 8) ∧ Below w1.heap.size w1 w') := fun w1 => by
    have := actsCheck_any none 0 0 [] none 0 0 [] w1 (rg_nil _ _ _ _) (rg_nil _ _ _ _)
    rw [show AK.acode (devs []) (acs []) = 8 from names_8] at this
    exact this
  have CX4 : Hid (∀ w1 b dn dc L a len cap M, Rg kDn 0 w1.heap.size w1 b dn dc L → Rg kAx 0 w1.heap.size w1 a len cap M → devs L = two2 → acs M = List.replicate 1025 AK.Ac.nil → Calls Try.prog 17 #[.slice a len cap, .slice b dn dc] w1 fun e w' => e = .returned (.int .i64 4) ∧ Below w1.heap.size w1 w') := fun w1 b dn dc L a len cap M h1 h2 h3 h4 => by
    have := actsCheck_any a len cap M b dn dc L w1 h2 h1
    rw [h3, h4, names_4] at this
    exact this
  have hMK := names_bools
  obtain ⟨Z, HZ, hZ⟩ := names_acts
  go_enter Try.func3, Try.ntmps3
  go_wp2_with fail
  refine (CT.out _).mono ?_
  rintro e w1 ⟨b1, n1, c1, L1, rfl, r1, d1, bl1⟩
  have R1 := Lib.hid r1
  have D1 := Lib.hid d1
  have B1 := Lib.hid bl1
  clear r1 d1 bl1
  go_wp2_with fail
  refine (CS.out _).mono ?_
  rintro e w2 ⟨a2, n2, c2, M2, rfl, r2, d2, bl2⟩
  have R1 := Lib.hid (R1.out.here bl2)
  have R2 := Lib.hid r2
  have D2 := Lib.hid d2
  have B2 := Lib.hid (thence B1.out bl2 (Nat.le_refl _))
  clear r2 d2 bl2
  go_wp2_with fail
  refine (CR1.out _ _ _ _ _ _ _ _ _ R1.out R2.out D1.out D2.out).mono ?_
  rintro e w3 ⟨v3, rfl, ⟨a3, n3, c3, L3, rfl, r3, d3, -⟩, bl3⟩
  have R3 := Lib.hid (r3.mono (Nat.zero_le _) (Nat.le_refl _))
  have D3 := Lib.hid d3
  have B3 := Lib.hid (thence B2.out bl3 (Nat.le_refl _))
  clear r3 d3 bl3 R1 R2 D1 D2 B1 B2 CR1
  go_wp2_with fail
  have ha1 : Below w3.heap.size w3 (w3.alloc (.cells #[.bool false, .bool false] 4)) := (Below.refl _ _).alloc (Nat.le_refl _) _
  have R3 := Lib.hid (R3.out.here ha1)
  have B3 := Lib.hid (thence B3.out ha1 (Nat.le_refl _))
  have K1 := Lib.hid (Rg.lit (K := kBool) [false, false] w3 4 (by simp) (fun _ _ => trivial))
  clear ha1
  refine (CC.out _ _ _ _ _ _ R3.out K1.out D3.out).mono ?_
  rintro e w4 ⟨v4, rfl, ⟨a4, n4, c4, L4, rfl, r4, d4, -⟩, bl4⟩
  have B4 := Lib.hid (thence B3.out bl4 (Nat.le_refl _))
  clear r4 d4 bl4 R3 D3 B3 K1 CC
  go_wp2_with fail
  refine (CT.out _).mono ?_
  rintro e w5 ⟨b5, n5, c5, L5, rfl, r5, d5, bl5⟩
  have R5 := Lib.hid r5
  have D5 := Lib.hid d5
  have B5 := Lib.hid (thence B4.out bl5 (Nat.le_refl _))
  clear r5 d5 bl5 B4
  go_wp2_with fail
  refine (CS.out _).mono ?_
  rintro e w6 ⟨a6, n6, c6, M6, rfl, r6, d6, bl6⟩
  have R5 := Lib.hid (R5.out.here bl6)
  have R6 := Lib.hid r6
  have D6 := Lib.hid d6
  have B6 := Lib.hid (thence B5.out bl6 (Nat.le_refl _))
  clear r6 d6 bl6 B5
  go_wp2_with fail
  refine (CR3.out _ _ _ _ _ _ _ _ _ R5.out R6.out D5.out D6.out).mono ?_
  rintro e w7 ⟨v7, rfl, ⟨a7, n7, c7, L7, rfl, r7, d7, -⟩, bl7⟩
  have B7 := Lib.hid (thence B6.out bl7 (Nat.le_refl _))
  clear r7 d7 bl7 R5 R6 D5 D6 B6 CR3
  go_wp2_with fail
  refine (CT.out _).mono ?_
  rintro e w8 ⟨b8, n8, c8, L8, rfl, r8, d8, bl8⟩
  have R8 := Lib.hid r8
  have D8 := Lib.hid d8
  have B8 := Lib.hid (thence B7.out bl8 (Nat.le_refl _))
  clear r8 d8 bl8 B7
  go_wp2_with fail
  have ha8 : Below w8.heap.size w8 (w8.alloc (.cells #[.int .i64 2, .int .u8 3, .int .i64 0, .slice none 0 0] 33)) := (Below.refl _ _).alloc (Nat.le_refl _) _
  have R8 := Lib.hid (R8.out.here ha8)
  have B8 := Lib.hid (thence B8.out ha8 (Nat.le_refl _))
  have K8 := Lib.hid (Rg.lit (K := kAx) [⟨2, 3, 0, ⟨none, 0, 0, []⟩⟩] w8 33 (by simp) (fun x hx => by
    obtain rfl := List.mem_singleton.1 hx
    exact ⟨rdI_nil _ _ _, by show 3 < 256; omega⟩))
  clear ha8
  refine (CR0.out _ _ _ _ _ _ _ _ _ R8.out K8.out D8.out rfl).mono ?_
  rintro e w9 ⟨v9, rfl, ⟨a9, n9, c9, L9, rfl, r9, d9, -⟩, bl9⟩
  have B9 := Lib.hid (thence B8.out bl9 (Nat.le_refl _))
  clear r9 d9 bl9 R8 D8 B8 K8 CR0
  go_wp2_with fail
  refine (CT.out _).mono ?_
  rintro e w10 ⟨b10, n10, c10, L10, rfl, r10, d10, bl10⟩
  have hl10 : L10.length = 2 := by rw [← devs_length, d10]; rfl
  obtain rfl : n10 = 2 := by rw [r10.long, hl10]
  obtain ⟨ab, off, xa, xn, xc, xa', xn', xc', D, e1, hbB, e2, dv⟩ := r10.dev 0 (by omega)
  subst e1
  have ED : D = DK.fresh 2 := by
    have h1 : (devs L10).getD 0 Dv.nil = D := by rw [devs_getD, e2]
    rw [← h1, d10]; rfl
  subst ED
  obtain ⟨s0, s1, s2⟩ := r10.dcell (by omega) e2
  rw [Nat.zero_mul, Nat.add_zero] at s0 s1 s2
  rw [show (DK.fresh 2).dead = false from rfl] at s2
  have B10 := Lib.hid (thence B9.out bl10 (Nat.le_refl _))
  have AT10 := Lib.hid dv.at
  clear r10 d10 bl10 B9 e2 dv hl10
  go_wp2_with fail
  refine (CK.out _ _ _ _ _ _ _ AT10.out).mono ?_
  intro e w11 hn
  obtain ⟨a11, n11, c11, a11', n11', c11', rfl, od11, at11, b11⟩ := hn.open
  rw [show (DK.killed (DK.fresh 2)).dead = true from rfl]
  have B11 := Lib.hid (thence B10.out b11 (Nat.le_refl _))
  have AT11 := Lib.hid at11
  clear hn od11 at11 b11 B10 AT10 s0 s1 s2
  go_wp2_with fail
  have ha11 : Below w11.heap.size w11 (w11.alloc (.cells #[.slice a11 n11 c11, .slice a11' n11' c11', .bool true] 37)) := (Below.refl _ _).alloc (Nat.le_refl _) _
  have BX := Lib.hid (Bx.new w11 [.slice a11 n11 c11, .slice a11' n11' c11', .bool true] 37)
  have AT11 := Lib.hid (AT11.out.here ha11)
  have B11 := Lib.hid (thence B11.out ha11 (Nat.le_refl _))
  obtain ⟨y0, y1, y2⟩ := BX.out.three
  clear ha11
  generalize hgk : w11.heap.size = gk at *
  generalize hW1 : w11.alloc (.cells #[.slice a11 n11 c11, .slice a11' n11' c11', .bool true] 37) = W1 at *
  have BX : Hid (Bx W1 gk [.slice a11 n11 c11, .slice a11' n11' c11', .bool true]) := BX
  clear hW1 hgk
  refine wp_region_noPanic ?_
  refine PX.wp_region_y (fun w' => Below W1.heap.size W1 w') [5] (by kernel_rfl) (Below.refl _ _).drew (fun hHeld => ?_)
  refine PX.wpAnyY_take (i := 0) (oi := ?_) (v := ?_) ?_ (by kernel_rfl) (by kernel_rfl) (by kernel_rfl) (by kernel_rfl) (by kernel_rfl) (fun _ _ _ h => h) (Or.inl ⟨?_, ?_⟩) (by assumption) ?_
  rotate_left 2
  · simp only [List.getElem?_toArray, List.getElem?_cons_succ, List.getElem?_cons_zero]; rfl
  · rfl
  · intro w hSw; (try dsimp only at hSw); obtain ⟨y0, y1, y2⟩ := (BX.out.here hSw).three; go_simp <;> with_reducible rfl
  (try simp only [Act.put, List.setIfInBounds_toArray, List.set_cons_zero, List.set_cons_succ])
  refine PX.wpAnyY_one (i := 1) (o := ?_) (by kernel_rfl) ?_ (fun Kq hKq => ?_)
  rotate_left
  · simp only [List.getElem?_toArray, List.getElem?_cons_succ, List.getElem?_cons_zero]; rfl
  go_simp
  refine (CT.out _).mono ?_
  rintro e w12 ⟨b12, n12, c12, L12, rfl, r12, d12, bl12⟩
  have hl12 : L12.length = 2 := by rw [← devs_length, d12]; rfl
  obtain rfl : n12 = 2 := by rw [r12.long, hl12]
  obtain ⟨ab2, off2, ya, yn, yc, ya', yn', yc', E, e1', hbB2, e2', dv2⟩ := r12.dev 1 (by omega)
  subst e1'
  have EE : E = DK.fresh 2 := by
    have h1 : (devs L12).getD 1 Dv.nil = E := by rw [devs_getD, e2']
    rw [← h1, d12]; rfl
  subst EE
  obtain ⟨s0, s1, s2⟩ := r12.dcell (by omega) e2'
  rw [Nat.one_mul] at s0 s1 s2
  rw [show (DK.fresh 2).dead = false from rfl] at s2
  have B12 := Lib.hid (thence hHeld bl12 (Nat.le_refl _))
  have AT12 := Lib.hid dv2.at
  clear r12 d12 bl12 e2' dv2 hl12
  go_wp2_with fail
  refine hKq.out _ _ (B12.out) (fun hHeld => ?_)
  clear hKq Kq
  (try simp only [Act.put, List.setIfInBounds_toArray, List.set_cons_zero, List.set_cons_succ])
  refine PX.wpAnyY_one (i := 2) (o := ?_) (by kernel_rfl) ?_ (fun Kq hKq => ?_)
  rotate_left
  · simp only [List.getElem?_toArray, List.getElem?_cons_succ, List.getElem?_cons_zero]; rfl
  go_simp
  refine hKq.out _ _ (B12.out) (fun hHeld => ?_)
  clear hKq Kq
  (try simp only [Act.put, List.setIfInBounds_toArray, List.set_cons_zero, List.set_cons_succ])
  refine PX.wpAnyY_one (i := 3) (o := ?_) (by kernel_rfl) ?_ (fun Kq hKq => ?_)
  rotate_left
  · simp only [List.getElem?_toArray, List.getElem?_cons_succ, List.getElem?_cons_zero]; rfl
  go_simp
  refine hKq.out _ _ (B12.out) (fun hHeld => ?_)
  clear hKq Kq
  (try simp only [Act.put, List.setIfInBounds_toArray, List.set_cons_zero, List.set_cons_succ])
  refine PX.wpAnyY_one (i := 4) (o := ?_) (by kernel_rfl) ?_ (fun Kq hKq => ?_)
  rotate_left
  · simp only [List.getElem?_toArray, List.getElem?_cons_succ, List.getElem?_cons_zero]; rfl
  go_simp
  have ha12 : Below w12.heap.size w12 (w12.alloc (.cells #[.slice a11 n11 c11, .slice a11' n11' c11', .bool true, .slice ya yn yc, .slice ya' yn' yc', .bool false] 37)) := (Below.refl _ _).alloc (Nat.le_refl _) _
  have B13 := Lib.hid (thence B12.out ha12 (Nat.le_refl _))
  refine hKq.out _ _ (B13.out) (fun hHeld => ?_)
  clear hKq Kq
  (try simp only [Act.put, List.setIfInBounds_toArray, List.set_cons_zero, List.set_cons_succ])
  refine PX.wpAnyY_free (i := 5) (o := ?_) (by kernel_rfl) (by kernel_rfl) ?_ (fun Kq hKq => ?_)
  rotate_left
  · simp only [List.getElem?_toArray, List.getElem?_cons_succ, List.getElem?_cons_zero]; rfl
  go_simp
  refine hKq.out _ _ ?_
  clear hKq Kq
  (try simp only [Act.put, List.setIfInBounds_toArray, List.set_cons_zero, List.set_cons_succ])
  refine PX.wpAnyY_done (by kernel_rfl) ?_ _
  refine NoPanic.normal ?_
  have RD := Rg.lit (K := kDn) [⟨a11, n11, c11, a11', n11', c11', DK.killed (DK.fresh 2)⟩, ⟨ya, yn, yc, ya', yn', yc', DK.fresh 2⟩] w12 37 (by simp) (fun x hx => by
    simp only [List.mem_cons, List.not_mem_nil, or_false] at hx
    rcases hx with rfl | rfl
    · exact (AT11.out.here B12.out).inn
    · exact AT12.out.inn)
  rw [show (kDn.row [⟨a11, n11, c11, a11', n11', c11', DK.killed (DK.fresh 2)⟩, ⟨ya, yn, yc, ya', yn', yc', DK.fresh 2⟩]).toArray = #[.slice a11 n11 c11, .slice a11' n11' c11', .bool true, .slice ya yn yc, .slice ya' yn' yc', .bool false] from rfl] at RD
  have RD := Lib.hid RD
  have B13 := Lib.hid (thence B11.out B13.out (Nat.le_refl _))
  clear B12 AT11 AT12 ha12 BX
  go_wp2_with fail
  generalize w12.alloc (.cells #[.slice a11 n11 c11, .slice a11' n11' c11', .bool true, .slice ya yn yc, .slice ya' yn' yc', .bool false] 37) = w13 at *
  generalize w12.heap.size = gd at *
  refine (CS.out _).mono ?_
  rintro e w14 ⟨a14, n14, c14, M14, rfl, r14, d14, bl14⟩
  have RD := Lib.hid (RD.out.here bl14)
  have R14 := Lib.hid r14
  have D14 := Lib.hid d14
  have B14 := Lib.hid (thence B13.out bl14 (Nat.le_refl _))
  clear r14 d14 bl14 B13
  go_wp2_with fail
  refine (CRD.out _ _ _ _ _ _ _ _ _ RD.out R14.out rfl D14.out).mono ?_
  rintro e w15 ⟨v15, rfl, ⟨a15, n15, c15, L15, rfl, r15, d15, -⟩, bl15⟩
  have RD := Lib.hid (RD.out.here bl15)
  have R15 := Lib.hid (r15.mono (Nat.zero_le _) (Nat.le_refl _))
  have D15 := Lib.hid d15
  have B15 := Lib.hid (thence B14.out bl15 (Nat.le_refl _))
  clear r15 d15 bl15 R14 D14 B14 CRD
  go_wp2_with fail
  refine wp_region_noPanic ?_
  refine PX.wp_region_y (fun w' => Below w15.heap.size w15 w') [38] (by kernel_rfl) (Below.refl _ _).drew (fun hHeld => ?_)
  refine PX.wpAnyY_one (i := 0) (o := ?_) (by kernel_rfl) ?_ (fun Kq hKq => ?_)
  rotate_left
  · simp only [List.getElem?_toArray, List.getElem?_cons_succ, List.getElem?_cons_zero]; rfl
  go_simp
  refine hKq.out _ _ (hHeld) (fun hHeld => ?_)
  clear hKq Kq
  (try simp only [Act.put, List.setIfInBounds_toArray, List.set_cons_zero, List.set_cons_succ])
  refine PX.wpAnyY_one (i := 1) (o := ?_) (by kernel_rfl) ?_ (fun Kq hKq => ?_)
  rotate_left
  · simp only [List.getElem?_toArray, List.getElem?_cons_succ, List.getElem?_cons_zero]; rfl
  go_simp
  refine (CA.out _).mono ?_
  rintro e w16 ⟨rfl, bl16⟩
  have H16 := Lib.hid (thence hHeld bl16 (Nat.le_refl _))
  clear bl16
  go_wp2_with fail
  refine hKq.out _ _ (H16.out) (fun hHeld => ?_)
  clear hKq Kq
  (try simp only [Act.put, List.setIfInBounds_toArray, List.set_cons_zero, List.set_cons_succ])
  refine PX.wpAnyY_one (i := 2) (o := ?_) (by kernel_rfl) ?_ (fun Kq hKq => ?_)
  rotate_left
  · simp only [List.getElem?_toArray, List.getElem?_cons_succ, List.getElem?_cons_zero]; rfl
  go_simp
  refine hKq.out _ _ (hHeld) (fun hHeld => ?_)
  clear hKq Kq
  (try simp only [Act.put, List.setIfInBounds_toArray, List.set_cons_zero, List.set_cons_succ])
  refine PX.wpAnyY_one (i := 3) (o := ?_) (by kernel_rfl) ?_ (fun Kq hKq => ?_)
  rotate_left
  · simp only [List.getElem?_toArray, List.getElem?_cons_succ, List.getElem?_cons_zero]; rfl
  go_simp
  refine hKq.out _ _ (hHeld) (fun hHeld => ?_)
  clear hKq Kq
  (try simp only [Act.put, List.setIfInBounds_toArray, List.set_cons_zero, List.set_cons_succ])
  refine PX.wpAnyY_one (i := 4) (o := ?_) (by kernel_rfl) ?_ (fun Kq hKq => ?_)
  rotate_left
  · simp only [List.getElem?_toArray, List.getElem?_cons_succ, List.getElem?_cons_zero]; rfl
  go_simp
  refine hKq.out _ _ (hHeld) (fun hHeld => ?_)
  clear hKq Kq
  (try simp only [Act.put, List.setIfInBounds_toArray, List.set_cons_zero, List.set_cons_succ])
  refine PX.wpAnyY_one (i := 5) (o := ?_) (by kernel_rfl) ?_ (fun Kq hKq => ?_)
  rotate_left
  · simp only [List.getElem?_toArray, List.getElem?_cons_succ, List.getElem?_cons_zero]; rfl
  go_simp
  refine hKq.out _ _ (hHeld) (fun hHeld => ?_)
  clear hKq Kq
  (try simp only [Act.put, List.setIfInBounds_toArray, List.set_cons_zero, List.set_cons_succ])
  refine PX.wpAnyY_one (i := 6) (o := ?_) (by kernel_rfl) ?_ (fun Kq hKq => ?_)
  rotate_left
  · simp only [List.getElem?_toArray, List.getElem?_cons_succ, List.getElem?_cons_zero]; rfl
  go_simp
  refine hKq.out _ _ (hHeld) (fun hHeld => ?_)
  clear hKq Kq
  (try simp only [Act.put, List.setIfInBounds_toArray, List.set_cons_zero, List.set_cons_succ])
  refine PX.wpAnyY_one (i := 7) (o := ?_) (by kernel_rfl) ?_ (fun Kq hKq => ?_)
  rotate_left
  · simp only [List.getElem?_toArray, List.getElem?_cons_succ, List.getElem?_cons_zero]; rfl
  go_simp
  refine hKq.out _ _ (hHeld) (fun hHeld => ?_)
  clear hKq Kq
  (try simp only [Act.put, List.setIfInBounds_toArray, List.set_cons_zero, List.set_cons_succ])
  refine PX.wpAnyY_one (i := 8) (o := ?_) (by kernel_rfl) ?_ (fun Kq hKq => ?_)
  rotate_left
  · simp only [List.getElem?_toArray, List.getElem?_cons_succ, List.getElem?_cons_zero]; rfl
  go_simp
  refine hKq.out _ _ (hHeld) (fun hHeld => ?_)
  clear hKq Kq
  (try simp only [Act.put, List.setIfInBounds_toArray, List.set_cons_zero, List.set_cons_succ])
  refine PX.wpAnyY_one (i := 9) (o := ?_) (by kernel_rfl) ?_ (fun Kq hKq => ?_)
  rotate_left
  · simp only [List.getElem?_toArray, List.getElem?_cons_succ, List.getElem?_cons_zero]; rfl
  go_simp
  refine hKq.out _ _ (hHeld) (fun hHeld => ?_)
  clear hKq Kq
  (try simp only [Act.put, List.setIfInBounds_toArray, List.set_cons_zero, List.set_cons_succ])
  refine PX.wpAnyY_one (i := 10) (o := ?_) (by kernel_rfl) ?_ (fun Kq hKq => ?_)
  rotate_left
  · simp only [List.getElem?_toArray, List.getElem?_cons_succ, List.getElem?_cons_zero]; rfl
  go_simp
  refine hKq.out _ _ (hHeld) (fun hHeld => ?_)
  clear hKq Kq
  (try simp only [Act.put, List.setIfInBounds_toArray, List.set_cons_zero, List.set_cons_succ])
  refine PX.wpAnyY_one (i := 11) (o := ?_) (by kernel_rfl) ?_ (fun Kq hKq => ?_)
  rotate_left
  · simp only [List.getElem?_toArray, List.getElem?_cons_succ, List.getElem?_cons_zero]; rfl
  go_simp
  refine hKq.out _ _ (hHeld) (fun hHeld => ?_)
  clear hKq Kq
  (try simp only [Act.put, List.setIfInBounds_toArray, List.set_cons_zero, List.set_cons_succ])
  refine PX.wpAnyY_one (i := 12) (o := ?_) (by kernel_rfl) ?_ (fun Kq hKq => ?_)
  rotate_left
  · simp only [List.getElem?_toArray, List.getElem?_cons_succ, List.getElem?_cons_zero]; rfl
  go_simp
  refine hKq.out _ _ (hHeld) (fun hHeld => ?_)
  clear hKq Kq
  (try simp only [Act.put, List.setIfInBounds_toArray, List.set_cons_zero, List.set_cons_succ])
  refine PX.wpAnyY_one (i := 13) (o := ?_) (by kernel_rfl) ?_ (fun Kq hKq => ?_)
  rotate_left
  · simp only [List.getElem?_toArray, List.getElem?_cons_succ, List.getElem?_cons_zero]; rfl
  go_simp
  refine hKq.out _ _ (hHeld) (fun hHeld => ?_)
  clear hKq Kq
  (try simp only [Act.put, List.setIfInBounds_toArray, List.set_cons_zero, List.set_cons_succ])
  refine PX.wpAnyY_one (i := 14) (o := ?_) (by kernel_rfl) ?_ (fun Kq hKq => ?_)
  rotate_left
  · simp only [List.getElem?_toArray, List.getElem?_cons_succ, List.getElem?_cons_zero]; rfl
  go_simp
  refine hKq.out _ _ (hHeld) (fun hHeld => ?_)
  clear hKq Kq
  (try simp only [Act.put, List.setIfInBounds_toArray, List.set_cons_zero, List.set_cons_succ])
  refine PX.wpAnyY_one (i := 15) (o := ?_) (by kernel_rfl) ?_ (fun Kq hKq => ?_)
  rotate_left
  · simp only [List.getElem?_toArray, List.getElem?_cons_succ, List.getElem?_cons_zero]; rfl
  go_simp
  refine hKq.out _ _ (hHeld) (fun hHeld => ?_)
  clear hKq Kq
  (try simp only [Act.put, List.setIfInBounds_toArray, List.set_cons_zero, List.set_cons_succ])
  refine PX.wpAnyY_one (i := 16) (o := ?_) (by kernel_rfl) ?_ (fun Kq hKq => ?_)
  rotate_left
  · simp only [List.getElem?_toArray, List.getElem?_cons_succ, List.getElem?_cons_zero]; rfl
  go_simp
  refine hKq.out _ _ (hHeld) (fun hHeld => ?_)
  clear hKq Kq
  (try simp only [Act.put, List.setIfInBounds_toArray, List.set_cons_zero, List.set_cons_succ])
  refine PX.wpAnyY_one (i := 17) (o := ?_) (by kernel_rfl) ?_ (fun Kq hKq => ?_)
  rotate_left
  · simp only [List.getElem?_toArray, List.getElem?_cons_succ, List.getElem?_cons_zero]; rfl
  go_simp
  refine hKq.out _ _ (hHeld) (fun hHeld => ?_)
  clear hKq Kq
  (try simp only [Act.put, List.setIfInBounds_toArray, List.set_cons_zero, List.set_cons_succ])
  refine PX.wpAnyY_one (i := 18) (o := ?_) (by kernel_rfl) ?_ (fun Kq hKq => ?_)
  rotate_left
  · simp only [List.getElem?_toArray, List.getElem?_cons_succ, List.getElem?_cons_zero]; rfl
  go_simp
  refine hKq.out _ _ (hHeld) (fun hHeld => ?_)
  clear hKq Kq
  (try simp only [Act.put, List.setIfInBounds_toArray, List.set_cons_zero, List.set_cons_succ])
  refine PX.wpAnyY_one (i := 19) (o := ?_) (by kernel_rfl) ?_ (fun Kq hKq => ?_)
  rotate_left
  · simp only [List.getElem?_toArray, List.getElem?_cons_succ, List.getElem?_cons_zero]; rfl
  go_simp
  refine hKq.out _ _ (hHeld) (fun hHeld => ?_)
  clear hKq Kq
  (try simp only [Act.put, List.setIfInBounds_toArray, List.set_cons_zero, List.set_cons_succ])
  refine PX.wpAnyY_one (i := 20) (o := ?_) (by kernel_rfl) ?_ (fun Kq hKq => ?_)
  rotate_left
  · simp only [List.getElem?_toArray, List.getElem?_cons_succ, List.getElem?_cons_zero]; rfl
  go_simp
  refine hKq.out _ _ (hHeld) (fun hHeld => ?_)
  clear hKq Kq
  (try simp only [Act.put, List.setIfInBounds_toArray, List.set_cons_zero, List.set_cons_succ])
  refine PX.wpAnyY_one (i := 21) (o := ?_) (by kernel_rfl) ?_ (fun Kq hKq => ?_)
  rotate_left
  · simp only [List.getElem?_toArray, List.getElem?_cons_succ, List.getElem?_cons_zero]; rfl
  go_simp
  refine hKq.out _ _ (hHeld) (fun hHeld => ?_)
  clear hKq Kq
  (try simp only [Act.put, List.setIfInBounds_toArray, List.set_cons_zero, List.set_cons_succ])
  refine PX.wpAnyY_one (i := 22) (o := ?_) (by kernel_rfl) ?_ (fun Kq hKq => ?_)
  rotate_left
  · simp only [List.getElem?_toArray, List.getElem?_cons_succ, List.getElem?_cons_zero]; rfl
  go_simp
  refine hKq.out _ _ (hHeld) (fun hHeld => ?_)
  clear hKq Kq
  (try simp only [Act.put, List.setIfInBounds_toArray, List.set_cons_zero, List.set_cons_succ])
  refine PX.wpAnyY_one (i := 23) (o := ?_) (by kernel_rfl) ?_ (fun Kq hKq => ?_)
  rotate_left
  · simp only [List.getElem?_toArray, List.getElem?_cons_succ, List.getElem?_cons_zero]; rfl
  go_simp
  refine hKq.out _ _ (hHeld) (fun hHeld => ?_)
  clear hKq Kq
  (try simp only [Act.put, List.setIfInBounds_toArray, List.set_cons_zero, List.set_cons_succ])
  refine PX.wpAnyY_take (i := 24) (oi := ?_) (v := ?_) ?_ (by kernel_rfl) (by kernel_rfl) (by kernel_rfl) (by kernel_rfl) (by kernel_rfl) (fun _ _ _ h => h) (Or.inl ⟨?_, ?_⟩) (by assumption) ?_
  rotate_left 2
  · simp only [List.getElem?_toArray, List.getElem?_cons_succ, List.getElem?_cons_zero]; rfl
  · rfl
  · intro w hSw; (try dsimp only at hSw); go_simp <;> with_reducible rfl
  (try simp only [Act.put, List.setIfInBounds_toArray, List.set_cons_zero, List.set_cons_succ])
  refine PX.wpAnyY_take (i := 25) (oi := ?_) (v := ?_) ?_ (by kernel_rfl) (by kernel_rfl) (by kernel_rfl) (by kernel_rfl) (by kernel_rfl) (fun _ _ _ h => h) (Or.inl ⟨?_, ?_⟩) (by assumption) ?_
  rotate_left 2
  · simp only [List.getElem?_toArray, List.getElem?_cons_succ, List.getElem?_cons_zero]; rfl
  · rfl
  · intro w hSw; (try dsimp only at hSw); go_simp <;> with_reducible rfl
  (try simp only [Act.put, List.setIfInBounds_toArray, List.set_cons_zero, List.set_cons_succ])
  refine PX.wpAnyY_one (i := 26) (o := ?_) (by kernel_rfl) ?_ (fun Kq hKq => ?_)
  rotate_left
  · simp only [List.getElem?_toArray, List.getElem?_cons_succ, List.getElem?_cons_zero]; rfl
  go_simp
  have CSD : Hid (Calls Try.prog 16 #[.slice a15 n15 c15, .slice (some ⟨gd, 0, none⟩) 2 2] w16 fun e w' => e = .returned (.bool true) ∧ Below w16.heap.size w16 w') := by
    have := refSameDs_any a15 n15 c15 L15 (some ⟨gd, 0, none⟩) 2 2 _ w16 (R15.out.here H16.out) (RD.out.here H16.out) (by rw [D15.out]; exact mays_fit names_m) (mays_fit (Ds := deadDs) names_m)
    rw [D15.out, show devs [(⟨a11, n11, c11, a11', n11', c11', DK.killed (DK.fresh 2)⟩ : Dn), ⟨ya, yn, yc, ya', yn', yc', DK.fresh 2⟩] = deadDs from rfl, sameD_refl] at this
    exact this
  refine CSD.out.mono ?_
  rintro e w17 ⟨rfl, bl17⟩
  have H17 := Lib.hid (thence hHeld bl17 (Nat.le_refl _))
  clear bl17 CSD
  go_wp2_with fail
  refine hKq.out _ _ (H17.out) (fun hHeld => ?_)
  clear hKq Kq
  (try simp only [Act.put, List.setIfInBounds_toArray, List.set_cons_zero, List.set_cons_succ])
  refine PX.wpAnyY_one (i := 27) (o := ?_) (by kernel_rfl) ?_ (fun Kq hKq => ?_)
  rotate_left
  · simp only [List.getElem?_toArray, List.getElem?_cons_succ, List.getElem?_cons_zero]; rfl
  go_simp
  refine hKq.out _ _ (hHeld) (fun hHeld => ?_)
  clear hKq Kq
  (try simp only [Act.put, List.setIfInBounds_toArray, List.set_cons_zero, List.set_cons_succ])
  refine PX.wpAnyY_one (i := 28) (o := ?_) (by kernel_rfl) ?_ (fun Kq hKq => ?_)
  rotate_left
  · simp only [List.getElem?_toArray, List.getElem?_cons_succ, List.getElem?_cons_zero]; rfl
  go_simp
  refine hKq.out _ _ (hHeld) (fun hHeld => ?_)
  clear hKq Kq
  (try simp only [Act.put, List.setIfInBounds_toArray, List.set_cons_zero, List.set_cons_succ])
  refine PX.wpAnyY_one (i := 29) (o := ?_) (by kernel_rfl) ?_ (fun Kq hKq => ?_)
  rotate_left
  · simp only [List.getElem?_toArray, List.getElem?_cons_succ, List.getElem?_cons_zero]; rfl
  go_simp
  refine (CX0.out _).mono ?_
  rintro e w18 ⟨rfl, bl18⟩
  have H18 := Lib.hid (thence hHeld bl18 (Nat.le_refl _))
  clear bl18
  go_wp2_with fail
  refine hKq.out _ _ (H18.out) (fun hHeld => ?_)
  clear hKq Kq
  (try simp only [Act.put, List.setIfInBounds_toArray, List.set_cons_zero, List.set_cons_succ])
  refine PX.wpAnyY_one (i := 30) (o := ?_) (by kernel_rfl) ?_ (fun Kq hKq => ?_)
  rotate_left
  · simp only [List.getElem?_toArray, List.getElem?_cons_succ, List.getElem?_cons_zero]; rfl
  go_simp
  refine hKq.out _ _ (hHeld) (fun hHeld => ?_)
  clear hKq Kq
  (try simp only [Act.put, List.setIfInBounds_toArray, List.set_cons_zero, List.set_cons_succ])
  refine PX.wpAnyY_one (i := 31) (o := ?_) (by kernel_rfl) ?_ (fun Kq hKq => ?_)
  rotate_left
  · simp only [List.getElem?_toArray, List.getElem?_cons_succ, List.getElem?_cons_zero]; rfl
  go_simp
  refine hKq.out _ _ (hHeld) (fun hHeld => ?_)
  clear hKq Kq
  (try simp only [Act.put, List.setIfInBounds_toArray, List.set_cons_zero, List.set_cons_succ])
  refine PX.wpAnyY_one (i := 32) (o := ?_) (by kernel_rfl) ?_ (fun Kq hKq => ?_)
  rotate_left
  · simp only [List.getElem?_toArray, List.getElem?_cons_succ, List.getElem?_cons_zero]; rfl
  go_simp
  refine hKq.out _ _ (hHeld) (fun hHeld => ?_)
  clear hKq Kq
  (try simp only [Act.put, List.setIfInBounds_toArray, List.set_cons_zero, List.set_cons_succ])
  refine PX.wpAnyY_two (i := 33) (j := 34) (o := ?_) (o' := ?_) (by kernel_rfl) ?_ ?_ (fun Kq hKq => ?_) (fun Kq hKq => ?_)
  rotate_left 2
  · simp only [List.getElem?_toArray, List.getElem?_cons_succ, List.getElem?_cons_zero]; rfl
  · simp only [List.getElem?_toArray, List.getElem?_cons_succ, List.getElem?_cons_zero]; rfl
  · go_simp
    have H19 := Lib.hid (hHeld.alloc hHeld.size (.cells Z.toArray 33))
    have R18 := Lib.hid (names_rg w18 Z HZ.out)
    refine hKq.out _ _ (H19.out) (fun hHeld => ?_)
    clear hKq Kq
    (try simp only [Act.put, List.setIfInBounds_toArray, List.set_cons_zero, List.set_cons_succ])
    refine PX.wpAnyY_one (i := 34) (o := ?_) (by kernel_rfl) ?_ (fun Kq hKq => ?_)
    rotate_left
    · simp only [List.getElem?_toArray, List.getElem?_cons_succ, List.getElem?_cons_zero]; rfl
    go_simp
    refine (CT.out _).mono ?_
    rintro e w20 ⟨b20, n20, c20, L20, rfl, r20, d20, bl20⟩
    have R20 := Lib.hid r20
    have D20 := Lib.hid d20
    have H20 := Lib.hid (thence hHeld bl20 (Nat.le_refl _))
    have R18 := Lib.hid (R18.out.here bl20)
    clear r20 d20 bl20
    go_wp2_with fail
    refine hKq.out _ _ (H20.out) (fun hHeld => ?_)
    clear hKq Kq
    (try simp only [Act.put, List.setIfInBounds_toArray, List.set_cons_zero, List.set_cons_succ])
    refine PX.wpAnyY_one (i := 35) (o := ?_) (by kernel_rfl) ?_ (fun Kq hKq => ?_)
    rotate_left
    · simp only [List.getElem?_toArray, List.getElem?_cons_succ, List.getElem?_cons_zero]; rfl
    go_simp
    refine (CX4.out _ _ _ _ _ _ _ _ _ R20.out R18.out D20.out names_len).mono ?_
    rintro e w21 ⟨rfl, bl21⟩
    have H21 := Lib.hid (thence hHeld bl21 (Nat.le_refl _))
    clear bl21
    go_wp2_with fail
    refine hKq.out _ _ (H21.out) (fun hHeld => ?_)
    clear hKq Kq
    (try simp only [Act.put, List.setIfInBounds_toArray, List.set_cons_zero, List.set_cons_succ])
    refine PX.wpAnyY_one (i := 36) (o := ?_) (by kernel_rfl) ?_ (fun Kq hKq => ?_)
    rotate_left
    · simp only [List.getElem?_toArray, List.getElem?_cons_succ, List.getElem?_cons_zero]; rfl
    go_simp
    refine hKq.out _ _ (hHeld) (fun hHeld => ?_)
    clear hKq Kq
    (try simp only [Act.put, List.setIfInBounds_toArray, List.set_cons_zero, List.set_cons_succ])
    refine PX.wpAnyY_one (i := 37) (o := ?_) (by kernel_rfl) ?_ (fun Kq hKq => ?_)
    rotate_left
    · simp only [List.getElem?_toArray, List.getElem?_cons_succ, List.getElem?_cons_zero]; rfl
    go_simp
    refine hKq.out _ _ (hHeld) (fun hHeld => ?_)
    clear hKq Kq
    (try simp only [Act.put, List.setIfInBounds_toArray, List.set_cons_zero, List.set_cons_succ])
    refine PX.wpAnyY_free (i := 38) (o := ?_) (by kernel_rfl) (by kernel_rfl) ?_ (fun Kq hKq => ?_)
    rotate_left
    · simp only [List.getElem?_toArray, List.getElem?_cons_succ, List.getElem?_cons_zero]; rfl
    go_simp
    refine hKq.out _ _ ?_
    clear hKq Kq
    (try simp only [Act.put, List.setIfInBounds_toArray, List.set_cons_zero, List.set_cons_succ])
    refine PX.wpAnyY_done (by kernel_rfl) ?_ _
    refine NoPanic.normal ?_
    have B21 := Lib.hid (thence B15.out H21.out (Nat.le_refl _))
    clear hHeld
    go_wp2_with fail
    go_ret
    exact ⟨rfl, B21.out⟩
  · go_simp
    refine (CT.out _).mono ?_
    rintro e w20 ⟨b20, n20, c20, L20, rfl, r20, d20, bl20⟩
    have R20 := Lib.hid r20
    have D20 := Lib.hid d20
    have H20 := Lib.hid (thence hHeld bl20 (Nat.le_refl _))
    clear r20 d20 bl20
    go_wp2_with fail
    refine hKq.out _ _ (H20.out) (fun hHeld => ?_)
    clear hKq Kq
    (try simp only [Act.put, List.setIfInBounds_toArray, List.set_cons_zero, List.set_cons_succ])
    refine PX.wpAnyY_one (i := 33) (o := ?_) (by kernel_rfl) ?_ (fun Kq hKq => ?_)
    rotate_left
    · simp only [List.getElem?_toArray, List.getElem?_cons_succ, List.getElem?_cons_zero]; rfl
    go_simp
    have H19 := Lib.hid (hHeld.alloc hHeld.size (.cells Z.toArray 33))
    have R18 := Lib.hid (names_rg w20 Z HZ.out)
    have R20 := Lib.hid (R20.out.here ((Below.refl _ _).alloc (Nat.le_refl _) (.cells Z.toArray 33)))
    refine hKq.out _ _ (H19.out) (fun hHeld => ?_)
    clear hKq Kq
    (try simp only [Act.put, List.setIfInBounds_toArray, List.set_cons_zero, List.set_cons_succ])
    refine PX.wpAnyY_one (i := 35) (o := ?_) (by kernel_rfl) ?_ (fun Kq hKq => ?_)
    rotate_left
    · simp only [List.getElem?_toArray, List.getElem?_cons_succ, List.getElem?_cons_zero]; rfl
    go_simp
    refine (CX4.out _ _ _ _ _ _ _ _ _ R20.out R18.out D20.out names_len).mono ?_
    rintro e w21 ⟨rfl, bl21⟩
    have H21 := Lib.hid (thence hHeld bl21 (Nat.le_refl _))
    clear bl21
    go_wp2_with fail
    refine hKq.out _ _ (H21.out) (fun hHeld => ?_)
    clear hKq Kq
    (try simp only [Act.put, List.setIfInBounds_toArray, List.set_cons_zero, List.set_cons_succ])
    refine PX.wpAnyY_one (i := 36) (o := ?_) (by kernel_rfl) ?_ (fun Kq hKq => ?_)
    rotate_left
    · simp only [List.getElem?_toArray, List.getElem?_cons_succ, List.getElem?_cons_zero]; rfl
    go_simp
    refine hKq.out _ _ (hHeld) (fun hHeld => ?_)
    clear hKq Kq
    (try simp only [Act.put, List.setIfInBounds_toArray, List.set_cons_zero, List.set_cons_succ])
    refine PX.wpAnyY_one (i := 37) (o := ?_) (by kernel_rfl) ?_ (fun Kq hKq => ?_)
    rotate_left
    · simp only [List.getElem?_toArray, List.getElem?_cons_succ, List.getElem?_cons_zero]; rfl
    go_simp
    refine hKq.out _ _ (hHeld) (fun hHeld => ?_)
    clear hKq Kq
    (try simp only [Act.put, List.setIfInBounds_toArray, List.set_cons_zero, List.set_cons_succ])
    refine PX.wpAnyY_free (i := 38) (o := ?_) (by kernel_rfl) (by kernel_rfl) ?_ (fun Kq hKq => ?_)
    rotate_left
    · simp only [List.getElem?_toArray, List.getElem?_cons_succ, List.getElem?_cons_zero]; rfl
    go_simp
    refine hKq.out _ _ ?_
    clear hKq Kq
    (try simp only [Act.put, List.setIfInBounds_toArray, List.set_cons_zero, List.set_cons_succ])
    refine PX.wpAnyY_done (by kernel_rfl) ?_ _
    refine NoPanic.normal ?_
    have B21 := Lib.hid (thence B15.out H21.out (Nat.le_refl _))
    clear hHeld
    go_wp2_with fail
    go_ret
    exact ⟨rfl, B21.out⟩
end Go.Proofs.Ytnhfkfihlkbkfaa.PW
